import Derived.Test.YtfdgnniicjdjdaaGreatDoorPS99
import Derived.Test.YtfdgnniicjdjdaaGreatDoorPS37
namespace Go.Proofs.YtfdgnniicjdjdaaGreatDoor
open Go.Lib (hid)
set_option maxHeartbeats 16000000
open Go.RowKit Go.ChangeShapes Go.WideShapes
set_option linter.unusedVariables false
set_option linter.unusedSimpArgs false
set_option maxRecDepth 10000
def z4c (S:St):St × Pg:=if (z1d S 512).1.1=0 then (((decP (z1d S 512).2).1,(z1d S 512).1.2),(decP (z1d S 512).2).2) else ((z1d S 512).1,noP)
def q0z (w:World) (B:Nat) (p0:Option Addr) (S:St) (e:Ending) (w':World):Prop:=∃ (pv:Rv) (L:List Ln) (T:List Tk) (M:List Ln),e=.returned (.agg (pcs pv))∧pv.pg L T M=(z4c S).2∧RvM w' pv L T M∧((∀ a,pv.lp=some a→w.heap.size≤a.block)∧(∀ a,pv.tp=some a→w.heap.size≤a.block)∧(∀ a,pv.wp=some a→w.heap.size≤a.block))∧Rr w' B p0 (z4c S).1∧Chg (fun k=>k=B) w w'
theorem z6z {fn:Func} (h:fn.results=#[.cell 2 49]) (tmps:Array Value) (W:World) (R:Nat) (C:Array Value) (hp:tmps.getD 2 undef=.pointer (some ⟨R,0,none⟩)) (hB:W.heap[R]?=some (.cells C 49 (0,0))) (hC:C.size=10):(results fn tmps).run Tryz.prog W=.ok (.agg C) W :=
 results_cell_row h tmps W R 49 C (0,0) _ hp hB Tryz.underlying49 rfl (by rw [hC];kernel_rfl)
theorem z9z (x:Nat):(∀ a,(none:Option Addr)=some a→x≤a.block):=fun a h=>by cases h
theorem rprog_any {w:World} {B:Nat} {p0:Option Addr} {S:St} (h:Rr w B p0 S) (hw:∀ w',Chg (fun k=>k=B) w w'→Words w') :
 Calls Tryz.prog 97 #[.pointer (some ⟨B,0,none⟩)] w (q0z w B p0 S):=by
 obtain⟨R,hR⟩:∃ R,w.heap.size=R:=⟨_,rfl⟩
 obtain⟨w0,hw0,hr0,hb0⟩:∃ w0,w.alloc (.cells zc 49)=w0∧w0.heap[R]?=some (.cells zc 49 (0,0))∧Below w.heap.size w w0:=⟨_,rfl,by rw [← hR];exact z0b w _,(Below.refl _ _).alloc (Nat.le_refl _) _⟩
 have h':=h.later hb0
 obtain⟨p,n,c,hb,hp⟩:=h'.box
 have hBR:B<R:=by
  obtain⟨_,_,_,hbx,_⟩:=h.box
  have:=z0g hbx
  omega
 have e0:w0.cell? ⟨B,0,none⟩=some (.slice p n c):=z0a hb rfl
 have e1:w0.cell? ⟨B,1,none⟩=some (.int .i64 S.1):=z0a hb rfl
 have HRE:=hid hR
 have HW0:=hid hw0
 have HR0:=hid hr0
 have HB0:=hid hb0
 have HBR:=hid hBR
 have HWD:=hid hw
 have hch0:Chg (fun k=>k=B) w w0:=Chg.of_below hb0
 have HC0:=hid hch0
 by_cases h0:S.1=0
 case neg =>
  have hd:(S.1 != 0)=true:=by simpa using h0
  have hRF:=setRow_heap w0 R _ zc _ _ hr0
  have HRF:=hid hRF
  have HG:Hid (q0z w B p0 S (.returned (.agg zc)) (w0.setRow R zc)):=hid (by
   have hs:z4c S=(S,noP):=by unfold z4c;rw [bytesR_bad h0,if_neg h0]
   have hcc:Chg (fun k=>k=R) w0 (w0.setRow R zc):=⟨rfl,rfl,rfl,by simp [World.setRow],fun k _ hn=>setRow_other _ _ _ _ hn⟩
   refine⟨⟨0,0,0,0,false,0,0,0,0,0,0,0,0,none,0,0,none,0,0,none,0,0,0,0,0,0⟩,[],[],[],rfl,by rw [hs];rfl,⟨SlG.empty _,SlG.empty _,SlG.empty _⟩,⟨z9z _,z9z _,z9z _⟩,?_,hch0.trans hcc fun k hk e=>by omega⟩
   rw [hs]
   exact h'.chg hcc fun k hk=>by omega)
  clear h0 hp hb h h' hR hw0 hr0 hb0 hBR hw hRF hch0
  generalize S.1=s1 at *
  go_enter Tryz.func97,Tryz.ntmps97
  go_upto_region 1 with (fail)
  rw [HW0.out,HRE.out]
  go_wp2_with ((with_reducible refine z0y 0 0 0 none 0 0 none 0 0 none 0 0 0 0 0 0 HR0.out ?_ ?_ ?_);rfl;rfl)
  (try simp only [Exit.inBlock,Exit.then])
  refine bodyPost_ret (v:=.agg zc) ?_ rfl HG.out
  exact z6z rfl _ _ R zc rfl HRF.out rfl
 obtain⟨s,L0⟩:=S
 obtain rfl:s=0:=h0
 have hpt:=hp rfl
 have hgn:=getbytes_any p n c L0 512 w0 hpt.1 hpt.2.2
 have HP:=hid hpt
 have HA:=hid (h'.apart rfl)
 have hap:(z1d (0,L0) 512).1.1=0→L0≠[]:=by
  rintro hz rfl
  have h6:=short_zero (size:=2) (by omega)
  unfold z1d at hz
  by_cases hm:(512:Int)<((numR (0,[]) 2).2:Int)
  · rw [if_pos hm] at hz
    have hne:¬ (bad 7 (numR ((0,[]):St) 2).1).1=0:=fun h=>bad_nn (by decide) h
    unfold z1i at hz
    rw [if_neg hne] at hz
    exact hne hz
  · rw [if_neg hm] at hz
    have hne:¬ (numR ((0,[]):St) 2).1.1=0:=by rw [h6];decide
    unfold z1i at hz
    rw [if_neg hne] at hz
    exact hne hz
 have HAP:=hid hap
 have HBX:=hid hb
 dsimp only at e1
 clear hap hp hpt h h' hb hR hw0 hr0 hb0 hBR hw hch0
 go_enter Tryz.func97,Tryz.ntmps97
 go_upto_region 1 with (fail)
 rw [HW0.out,HRE.out]
 go_wp2_with fail
 refine hgn.mono ?_
 rintro e w2 ⟨t,tm,td,q,m,d,kk,rfl,ht,hq,rfl⟩
 have HT:=hid (show Part (w0.drewN kk) p0 t tm td (z1d (0,L0) 512).2 from ⟨ht.1.later (z0f (Below.refl _ _) kk),ht.2.1.trans HP.out.2.1,ht.2.2⟩)
 have HQ:=hid (show Part (w0.drewN kk) p0 q m d (z5l (z1d (0,L0) 512).1) from ⟨hq.1.later (z0f (Below.refl _ _) kk),hq.2.1.trans HP.out.2.1,hq.2.2⟩)
 have hb2:=z0c HBX.out (z0f (Below.refl w0.heap.size w0) kk)
 have e0':(w0.drewN kk).cell? ⟨B,0,none⟩=some (.slice p n c):=z0a hb2 rfl
 have e1':(w0.drewN kk).cell? ⟨B,1,none⟩=some (.int .i64 0):=z0a hb2 rfl
 have f0:=z2a hb2 0
 have f1:=z2a hb2 1
 have hb3:=z0u 0 (.slice q m d) hb2
 have f3:=z2a hb3 1
 have e3:((w0.drewN kk).setCell ⟨B,0,none⟩ (.slice q m d)).cell? ⟨B,1,none⟩=some (.int .i64 0):=z0a hb3 (by simp)
 have hb4:=z0u 1 (.int .i64 (z1d (0,L0) 512).1.1) hb3
 obtain⟨w4,hw4⟩:∃ w4,((w0.drewN kk).setCell ⟨B,0,none⟩ (.slice q m d)).setCell ⟨B,1,none⟩ (.int .i64 (z1d (0,L0) 512).1.1)=w4:=⟨_,rfl⟩
 have hc4:Chg (fun k=>k=B) w0 (((w0.drewN kk).setCell ⟨B,0,none⟩ (.slice q m d)).setCell ⟨B,1,none⟩ (.int .i64 (z1d (0,L0) 512).1.1)) :=
  (((Chg.refl (fun k=>k=B) w0).drewN kk).setCell ⟨B,0,none⟩ _ fun _=>rfl).setCell ⟨B,1,none⟩ _ fun _=>rfl
 have hc42:Chg (fun k=>k=B) (w0.drewN kk) (((w0.drewN kk).setCell ⟨B,0,none⟩ (.slice q m d)).setCell ⟨B,1,none⟩ (.int .i64 (z1d (0,L0) 512).1.1)) :=
  ((Chg.refl (fun k=>k=B) (w0.drewN kk)).setCell ⟨B,0,none⟩ _ fun _=>rfl).setCell ⟨B,1,none⟩ _ fun _=>rfl
 rw [hw4] at hb4 hc4 hc42
 have HBOX:Hid (w4.heap[B]?=some (.cells #[.slice q m d,.int .i64 (z1d (0,L0) 512).1.1] 162 (0,0))):=hid (by simpa using hb4)
 have HC4:=hid (HC0.out.trans hc4 fun _ _ e=>e)
 have HR4:=hid ((hc4.block R (z0g HR0.out) (by have:=HBR.out;omega)).trans HR0.out)
 have HQ4:Hid ((z1d (0,L0) 512).1.1=0→Part w4 p0 q m d (z5l (z1d (0,L0) 512).1)):=hid fun hz=>HQ.out.keep (fun a ha=>Nat.ne_of_lt (HA.out (HAP.out hz) a ha)) hc42
 have HT4:Hid ((z1d (0,L0) 512).1.1=0→Part w4 p0 t tm td (z1d (0,L0) 512).2):=hid fun hz=>HT.out.keep (fun a ha=>Nat.ne_of_lt (HA.out (HAP.out hz) a ha)) hc42
 have HW4:=hid hw4
 have HMO:=hid (bytesR_most ((0,L0):St))
 have HS4:=hid hc4.size
 clear hgn ht hq hb2 hb3 hb4 hc4 hc42 HQ HT hw4
 have HPS:Hid (z4c (0,L0)=if (z1d (0,L0) 512).1.1=0 then (((decP (z1d (0,L0) 512).2).1,(z1d (0,L0) 512).1.2),(decP (z1d (0,L0) 512).2).2) else ((z1d (0,L0) 512).1,noP)):=hid rfl
 have hrest:∀ S:St,S.1=0→z5l S=S.2:=fun S h=>if_pos h
 have HREST:=hid hrest
 generalize z1d (0,L0) 512=Rb at *
 obtain⟨⟨s2,L2⟩,Y⟩:=Rb
 dsimp only at HBOX HC4 HQ4 HT4 HW4 HMO HPS HAP
 clear hrest
 by_cases hz:s2=0
 case neg =>
  have hd:(s2 != 0)=true:=by simpa using hz
  have HRF:=hid (setRow_heap w4 R _ zc _ _ HR4.out)
  have HG:Hid (q0z w B p0 (0,L0) (.returned (.agg zc)) (w4.setRow R zc)):=hid (by
   have hs:z4c (0,L0)=((s2,L2),noP):=by rw [HPS.out,if_neg hz]
   have hBR:=HBR.out
   have hRE:=HRE.out
   have hcc:Chg (fun k=>k=R) w4 (w4.setRow R zc):=⟨rfl,rfl,rfl,by simp [World.setRow],fun k _ hn=>setRow_other _ _ _ _ hn⟩
   refine⟨⟨0,0,0,0,false,0,0,0,0,0,0,0,0,none,0,0,none,0,0,none,0,0,0,0,0,0⟩,[],[],[],rfl,by rw [hs];rfl,⟨SlG.empty _,SlG.empty _,SlG.empty _⟩,⟨z9z _,z9z _,z9z _⟩,?_,HC4.out.trans hcc fun k hk e=>by omega⟩
   rw [hs]
   exact⟨⟨q,m,d,(setRow_other _ _ _ _ (by omega)).trans HBOX.out,fun h=>absurd h hz⟩,fun h=>absurd h hz⟩)
  clear hz
  go_wp2_with (first | ((try rw [HW4.out]);(with_reducible refine z0y 0 0 0 none 0 0 none 0 0 none 0 0 0 0 0 0 HR4.out ?_ ?_ ?_);rfl;rfl))
  (try simp only [Exit.inBlock,Exit.then])
  (try rw [HW4.out])
  refine bodyPost_ret (v:=.agg zc) ?_ rfl HG.out
  exact z6z rfl _ _ R zc rfl HRF.out rfl
 subst hz
 have HPS1:=hid (HPS.out.trans (if_pos rfl))
 go_wp2_with fail
 rw [HW4.out]
 refine (rdecode2 t tm td Y w4 (HWD.out w4 HC4.out) (HT4.out (by simp)).1 (HT4.out (by simp)).2.2).mono ?_
 rintro e w5 ⟨lp5,lc5,tp5,tc5,wp5,wc5,rfl,hP5,hb5,hf1,hf2,hf3⟩
 rw [dec_both] at hP5 ⊢
 have HFR:Hid ((∀ a,lp5=some a→w4.heap.size≤a.block)∧(∀ a,tp5=some a→w4.heap.size≤a.block)∧(∀ a,wp5=some a→w4.heap.size≤a.block)):=hid ⟨hf1,hf2,hf3⟩
 have HC5:=hid (HC4.out.trans (Chg.of_below (S:=fun k=>k=B) hb5) fun _ _ e=>e)
 have HR5:=hid (z0c HR4.out hb5)
 have HBX5:=hid (z0c HBOX.out hb5)
 have HQ5:=hid (show Part w5 p0 q m d L2 from by
  have:=HQ4.out (by simp)
  rw [HREST.out (0,L2) rfl] at this
  exact⟨this.1.later hb5,this.2.1,this.2.2⟩)
 have HS5:Hid (w4.heap.size≤w5.heap.size):=hid hb5.size
 clear hb5 hf1 hf2 hf3
 generalize decP Y=dp at *
 obtain⟨er,k2,od2,po2,Lq,Tq,Mq,sk2,fr2,to2,q2⟩:=dp
 dsimp only at hP5 ⊢
 generalize Lq.length=ln5 at *
 generalize Tq.length=tn5 at *
 generalize Mq.length=wn5 at *
 have HP5:=hid hP5
 clear hP5
 obtain⟨N5,hN5⟩:∃ n,w5.heap.size=n:=⟨_,rfl⟩
 obtain⟨w6,hwn,hxn,hbn⟩:∃ w6,(w5.alloc (.cells zc 49)).setRow N5 #[.int .u8 k2,.int .u32 od2,.int .u8 po2,.slice lp5 ln5 lc5,.slice tp5 tn5 tc5,.slice wp5 wn5 wc5,.int .u8 sk2,.int .u8 fr2,.int .u8 to2,.int .i64 q2]=w6∧w6.heap[N5]?=some (.cells #[.int .u8 k2,.int .u32 od2,.int .u8 po2,.slice lp5 ln5 lc5,.slice tp5 tn5 tc5,.slice wp5 wn5 wc5,.int .u8 sk2,.int .u8 fr2,.int .u8 to2,.int .i64 q2] 49 (0,0))∧Below w5.heap.size w5 w6:=⟨_,rfl,by rw [← hN5];exact setRow_heap _ _ _ _ _ _ (z0b w5 _),below_setRow ((Below.refl _ _).alloc (Nat.le_refl _) _) (by omega) _⟩
 have hx5:=z0b w5 (.cells zc 49)
 rw [hN5] at hx5
 have HX5:=hid hx5
 have HW6:=hid hwn
 have HN5:=hid hN5
 have hb6:=z0c HBX5.out hbn
 have hR6:=z0c HR5.out hbn
 have e6:w6.cell? ⟨B,1,none⟩=some (.int .i64 0):=z0a hb6 rfl
 have f6:=z2a hb6 1
 have hBR:=HBR.out
 have hRl:=z0g HR5.out
 obtain⟨w7,hw7⟩:∃ w7,w6.setCell ⟨B,1,none⟩ (.int .i64 er)=w7:=⟨_,rfl⟩
 have hc7:Chg (fun k=>k=B) w6 w7:=by rw [← hw7];exact (Chg.refl (fun k=>k=B) w6).setCell ⟨B,1,none⟩ _ fun _=>rfl
 have hb7:=z0u 1 (.int .i64 er) hb6
 rw [hw7] at hb7
 have hX7:=(hc7.block N5 (z0g hxn) (by omega)).trans hxn
 have HR7:=hid ((hc7.block R (z0g hR6) (by omega)).trans hR6)
 have HB7:Hid (w7.heap[B]?=some (.cells #[.slice q m d,.int .i64 er] 162 (0,0))):=hid (by simpa using hb7)
 have HC7:=hid ((HC5.out.trans (Chg.of_below (S:=fun k=>k=B) hbn) fun _ _ e=>e).trans hc7 fun _ _ e=>e)
 have HQ7:Hid (L2≠[]→Part w7 p0 q m d L2):=hid fun hne=>Part.keep ⟨HQ5.out.1.later hbn,HQ5.out.2.1,HQ5.out.2.2⟩ (fun a ha=>Nat.ne_of_lt (HA.out (HAP.out (by simp)) a ha)) hc7
 have hw04:=HS4.out
 have hs5:=HS5.out
 have HP7:=hid (z6e (HP5.out.later hbn) hc7 (fun a h e=>by have:=HFR.out.1 a h;have:=z0g HR4.out;omega) (fun a h e=>by have:=HFR.out.2.1 a h;have:=z0g HR4.out;omega) (fun a h e=>by have:=HFR.out.2.2 a h;have:=z0g HR4.out;omega))
 obtain⟨a0,a1,a2,a3,a4,a5,a6,a7,a8,a9⟩:=z0j k2 od2 po2 lp5 ln5 lc5 tp5 tn5 tc5 wp5 wn5 wc5 sk2 fr2 to2 q2 hX7
 have HW7:=hid hw7
 have HRL:=hid (z0g HR4.out)
 clear hwn hxn hbn hx5 hN5 hb6 hR6 hBR hRl hw7 hc7 hb7 hX7 hw04 hs5
 obtain⟨C,hC⟩:∃ C:Array Value,#[.int .u8 k2,.int .u32 od2,.int .u8 po2,.slice lp5 ln5 lc5,.slice tp5 tn5 tc5,.slice wp5 wn5 wc5,.int .u8 sk2,.int .u8 fr2,.int .u8 to2,.int .i64 q2]=C:=⟨_,rfl⟩
 have HRF:=hid (setRow_heap w7 R _ C _ _ HR7.out)
 have HG:Hid (q0z w B p0 (0,L0) (.returned (.agg C)) (w7.setRow R C)):=hid (by
  have hBR:=HBR.out
  have hRE:=HRE.out
  have hRL:=HRL.out
  have hcc:Chg (fun k=>k=R) w7 (w7.setRow R C):=⟨rfl,rfl,rfl,by simp [World.setRow],fun k _ hn=>setRow_other _ _ _ _ hn⟩
  refine⟨⟨0,0,0,0,false,0,0,0,0,0,k2,od2,po2,lp5,ln5,lc5,tp5,tn5,tc5,wp5,wn5,wc5,sk2,fr2,to2,q2⟩,Lq,Tq,Mq,by rw [← hC];rfl,by rw [HPS1.out];rfl,?_,⟨fun a h=>by have:=HFR.out.1 a h;omega,fun a h=>by have:=HFR.out.2.1 a h;omega,fun a h=>by have:=HFR.out.2.2 a h;omega⟩,?_,HC7.out.trans hcc fun k hk e=>by omega⟩
  · exact z6e HP7.out hcc (fun a h e=>by have:=HFR.out.1 a h;omega) (fun a h e=>by have:=HFR.out.2.1 a h;omega) (fun a h e=>by have:=HFR.out.2.2 a h;omega)
  · rw [HPS1.out]
    have hr7:Rr w7 B p0 (er,L2):=⟨⟨q,m,d,HB7.out,fun _=>by
     by_cases hne:L2=[]
     · have h5:=HQ5.out
       have hl:=h5.1.len
       refine⟨⟨h5.1.len,h5.1.cap,h5.1.nil,h5.1.lt,fun hn=>?_⟩,h5.2.1,h5.2.2⟩
       rw [hne] at hl
       have:m=0:=hl.symm
       omega
     · exact HQ7.out hne⟩,fun _ _=>HA.out (HAP.out (by simp))⟩
    exact hr7.chg hcc fun k hk=>by omega)
 subst hC
 go_upto_region 10 with ((try rw [HN5.out]);(with_reducible refine z0y k2 od2 po2 lp5 ln5 lc5 tp5 tn5 tc5 wp5 wn5 wc5 sk2 fr2 to2 q2 HX5.out ?_ ?_ ?_);rfl;rfl;rw [HW6.out])
 rw [HW7.out]
 go_wp2_with ((with_reducible refine z0y k2 od2 po2 lp5 ln5 lc5 tp5 tn5 tc5 wp5 wn5 wc5 sk2 fr2 to2 q2 HR7.out ?_ ?_ ?_);rfl;rfl)
 (try simp only [Exit.inBlock,Exit.then])
 refine bodyPost_ret (v:=.agg #[.int .u8 k2,.int .u32 od2,.int .u8 po2,.slice lp5 ln5 lc5,.slice tp5 tn5 tc5,.slice wp5 wn5 wc5,.int .u8 sk2,.int .u8 fr2,.int .u8 to2,.int .i64 q2]) ?_ rfl HG.out
 exact z6z rfl _ _ R _ rfl HRF.out rfl
theorem two_recs (W:World) (r r':Rv):∃ W1,(W.alloc (.cells (rcs r) 51)).alloc (.cells (rcs r') 51)=W1∧RB W1 W.heap.size r∧RB W1 (W.heap.size+1) r'∧Below W.heap.size W W1:=by
 refine⟨_,rfl,?_,?_,((Below.refl _ _).alloc (Nat.le_refl _) _).alloc (by simp) _⟩
 · exact (Below.heap_alloc _ _ _ (by simp)).trans (z0b W _)
 · have:=z0b (W.alloc (.cells (rcs r) 51)) (.cells (rcs r') 51)
   rw [World.size_alloc] at this
   exact this
theorem rx_eq (r r':Rv) (L:List Ln) (T:List Tk) (M:List Ln) (L':List Ln) (T':List Tk) (M':List Ln):decide (r.x L T M=r'.x L' T' M')=(r.k==r'.k && r.sg==r'.sg && r.tx==r'.tx && r.st==r'.st && r.cp==r'.cp && decide (((r.ka,r.kb,r.kc):K)=(r'.ka,r'.kb,r'.kc)) && r.d==r'.d && r.o==r'.o && decide (r.pg L T M=r'.pg L' T' M')):=by
 rw [Bool.eq_iff_iff]
 simp only [decide_eq_true_eq,Bool.and_eq_true,beq_iff_eq]
 constructor
 · intro h
   refine⟨⟨⟨⟨⟨⟨⟨⟨?_,?_⟩,?_⟩,?_⟩,?_⟩,?_⟩,?_⟩,?_⟩,?_⟩
   · exact congrArg Rx.k h
   · exact congrArg Rx.sg h
   · exact congrArg Rx.tx h
   · exact congrArg Rx.st h
   · exact congrArg Rx.cp h
   · exact congrArg Rx.key h
   · exact congrArg Rx.d h
   · exact congrArg Rx.o h
   · exact congrArg Rx.pg h
 · rintro ⟨⟨⟨⟨⟨⟨⟨⟨h1,h2⟩,h3⟩,h4⟩,h5⟩,h6⟩,h7⟩,h8⟩,h9⟩
   unfold Rv.x
   rw [h1,h2,h3,h4,h5,h6,h7,h8,h9]
theorem z3b (r r':Rv) (L:List Ln) (T:List Tk) (M:List Ln) (L':List Ln) (T':List Tk) (M':List Ln) (W:World) (hP:RvM W r L T M) (hP':RvM W r' L' T' M') (h1:r.ln≤1000∧r.tn≤1000∧r.wn≤1000) (h2:r'.ln≤1000∧r'.tn≤1000∧r'.wn≤1000):Calls Tryz.prog 51 #[.agg (rcs r),.agg (rcs r')] W fun e w'=>e=.returned (.bool (decide (r.x L T M=r'.x L' T' M')))∧Below W.heap.size W w':=by
 obtain⟨W1,hW1,hx,hx',hb1⟩:=two_recs W r r'
 have HP:=hid (hP.later hb1)
 have HP':=hid (hP'.later hb1)
 have hpp:=z6y r.pk r.od r.po r.lp r.ln r.lcp r.tp r.tn r.tcp r.wp r.wn r.wcp r.sk r.fr r.to r.q r'.pk r'.od r'.po r'.lp r'.ln r'.lcp r'.tp r'.tn r'.tcp r'.wp r'.wn r'.wcp r'.sk r'.fr r'.to r'.q L T M L' T' M' W1 HP.out HP'.out h1 h2
 have hkk:=fun w=>key_eql r.ka r.kb r.kc r'.ka r'.kb r'.kc w
 obtain⟨y,hy⟩:∃ y,decide (((r.ka,r.kb,r.kc):K)=(r'.ka,r'.kb,r'.kc))=y:=⟨_,rfl⟩
 obtain⟨z,hz⟩:∃ z,decide (r.pg L T M=r'.pg L' T' M')=z:=⟨_,rfl⟩
 have hz':decide ((⟨r.pk,r.od,r.po,L,T,M,r.sk,r.fr,r.to,r.q⟩:Pg)=⟨r'.pk,r'.od,r'.po,L',T',M',r'.sk,r'.fr,r'.to,r'.q⟩)=z:=hz
 rw [hz'] at hpp
 rw [hy] at hkk
 have HA:=hid (rx_eq r r' L T M L' T' M')
 rw [hy,hz] at HA
 have HX:=hid hx
 have HX':=hid hx'
 have HW1:=hid hW1
 have HB1:=hid hb1
 have c0:W1.cell? ⟨W.heap.size,0,none⟩=some (.int .u8 r.k):=z0a hx rfl
 have d0:W1.cell? ⟨W.heap.size+1,0,none⟩=some (.int .u8 r'.k):=z0a hx' rfl
 have c1:W1.cell? ⟨W.heap.size,1,none⟩=some (.int .u32 r.sg):=z0a hx rfl
 have d1:W1.cell? ⟨W.heap.size+1,1,none⟩=some (.int .u32 r'.sg):=z0a hx' rfl
 have c2:W1.cell? ⟨W.heap.size,2,none⟩=some (.int .u32 r.tx):=z0a hx rfl
 have d2:W1.cell? ⟨W.heap.size+1,2,none⟩=some (.int .u32 r'.tx):=z0a hx' rfl
 have c3:W1.cell? ⟨W.heap.size,3,none⟩=some (.int .u8 r.st):=z0a hx rfl
 have d3:W1.cell? ⟨W.heap.size+1,3,none⟩=some (.int .u8 r'.st):=z0a hx' rfl
 have c4:W1.cell? ⟨W.heap.size,4,none⟩=some (.bool r.cp):=z0a hx rfl
 have d4:W1.cell? ⟨W.heap.size+1,4,none⟩=some (.bool r'.cp):=z0a hx' rfl
 have c8:W1.cell? ⟨W.heap.size,8,none⟩=some (.int .i64 r.d):=z0a hx rfl
 have d8:W1.cell? ⟨W.heap.size+1,8,none⟩=some (.int .i64 r'.d):=z0a hx' rfl
 have c9:W1.cell? ⟨W.heap.size,9,none⟩=some (.int .u8 r.o):=z0a hx rfl
 have d9:W1.cell? ⟨W.heap.size+1,9,none⟩=some (.int .u8 r'.o):=z0a hx' rfl
 clear hW1 hx hx' hb1 hP hP' h1 h2 hy hz hz'
 cases qk:(r.k==r'.k)
 case false =>
  go_enter Tryz.func51,Tryz.ntmps51
  go_upto_region 1 with (fail)
  rw [HW1.out]
  go_wp2_with (first | ((with_reducible refine z0i HX.out ?_ ?_ ?_);rfl;rfl) | ((with_reducible refine z0i HX'.out ?_ ?_ ?_);rfl;rfl) | ((with_reducible refine z0h HX.out ?_ ?_ ?_);rfl;rfl) | ((with_reducible refine z0h HX'.out ?_ ?_ ?_);rfl;rfl))
  go_ret
  exact⟨by rw [HA.out,qk];rfl,HB1.out⟩
 cases qsg:(r.sg==r'.sg)
 case false =>
  go_enter Tryz.func51,Tryz.ntmps51
  go_upto_region 1 with (fail)
  rw [HW1.out]
  go_wp2_with (first | ((with_reducible refine z0i HX.out ?_ ?_ ?_);rfl;rfl) | ((with_reducible refine z0i HX'.out ?_ ?_ ?_);rfl;rfl) | ((with_reducible refine z0h HX.out ?_ ?_ ?_);rfl;rfl) | ((with_reducible refine z0h HX'.out ?_ ?_ ?_);rfl;rfl))
  go_ret
  exact⟨by rw [HA.out,qk,qsg];rfl,HB1.out⟩
 cases qtx:(r.tx==r'.tx)
 case false =>
  go_enter Tryz.func51,Tryz.ntmps51
  go_upto_region 1 with (fail)
  rw [HW1.out]
  go_wp2_with (first | ((with_reducible refine z0i HX.out ?_ ?_ ?_);rfl;rfl) | ((with_reducible refine z0i HX'.out ?_ ?_ ?_);rfl;rfl) | ((with_reducible refine z0h HX.out ?_ ?_ ?_);rfl;rfl) | ((with_reducible refine z0h HX'.out ?_ ?_ ?_);rfl;rfl))
  go_ret
  exact⟨by rw [HA.out,qk,qsg,qtx];rfl,HB1.out⟩
 cases qst:(r.st==r'.st)
 case false =>
  go_enter Tryz.func51,Tryz.ntmps51
  go_upto_region 1 with (fail)
  rw [HW1.out]
  go_wp2_with (first | ((with_reducible refine z0i HX.out ?_ ?_ ?_);rfl;rfl) | ((with_reducible refine z0i HX'.out ?_ ?_ ?_);rfl;rfl) | ((with_reducible refine z0h HX.out ?_ ?_ ?_);rfl;rfl) | ((with_reducible refine z0h HX'.out ?_ ?_ ?_);rfl;rfl))
  go_ret
  exact⟨by rw [HA.out,qk,qsg,qtx,qst];rfl,HB1.out⟩
 cases qcp:(r.cp==r'.cp)
 case false =>
  go_enter Tryz.func51,Tryz.ntmps51
  go_upto_region 1 with (fail)
  rw [HW1.out]
  go_wp2_with (first | ((with_reducible refine z0i HX.out ?_ ?_ ?_);rfl;rfl) | ((with_reducible refine z0i HX'.out ?_ ?_ ?_);rfl;rfl) | ((with_reducible refine z0h HX.out ?_ ?_ ?_);rfl;rfl) | ((with_reducible refine z0h HX'.out ?_ ?_ ?_);rfl;rfl))
  go_ret
  exact⟨by rw [HA.out,qk,qsg,qtx,qst,qcp];rfl,HB1.out⟩
 cases y
 case false =>
  go_enter Tryz.func51,Tryz.ntmps51
  go_upto_region 1 with (fail)
  rw [HW1.out]
  go_wp2_with (first | ((with_reducible refine z0i HX.out ?_ ?_ ?_);rfl;rfl) | ((with_reducible refine z0i HX'.out ?_ ?_ ?_);rfl;rfl) | ((with_reducible refine z0h HX.out ?_ ?_ ?_);rfl;rfl) | ((with_reducible refine z0h HX'.out ?_ ?_ ?_);rfl;rfl))
  go_ret
  exact⟨by rw [HA.out,qk,qsg,qtx,qst,qcp];rfl,HB1.out⟩
 cases qd:(r.d==r'.d)
 case false =>
  go_enter Tryz.func51,Tryz.ntmps51
  go_upto_region 1 with (fail)
  rw [HW1.out]
  go_wp2_with (first | ((with_reducible refine z0i HX.out ?_ ?_ ?_);rfl;rfl) | ((with_reducible refine z0i HX'.out ?_ ?_ ?_);rfl;rfl) | ((with_reducible refine z0h HX.out ?_ ?_ ?_);rfl;rfl) | ((with_reducible refine z0h HX'.out ?_ ?_ ?_);rfl;rfl))
  go_ret
  exact⟨by rw [HA.out,qk,qsg,qtx,qst,qcp,qd];rfl,HB1.out⟩
 cases qo:(r.o==r'.o)
 case false =>
  go_enter Tryz.func51,Tryz.ntmps51
  go_upto_region 1 with (fail)
  rw [HW1.out]
  go_wp2_with (first | ((with_reducible refine z0i HX.out ?_ ?_ ?_);rfl;rfl) | ((with_reducible refine z0i HX'.out ?_ ?_ ?_);rfl;rfl) | ((with_reducible refine z0h HX.out ?_ ?_ ?_);rfl;rfl) | ((with_reducible refine z0h HX'.out ?_ ?_ ?_);rfl;rfl))
  go_ret
  exact⟨by rw [HA.out,qk,qsg,qtx,qst,qcp,qd,qo];rfl,HB1.out⟩
 go_enter Tryz.func51,Tryz.ntmps51
 go_upto_region 1 with (fail)
 rw [HW1.out]
 go_wp2_with (first | ((with_reducible refine z0i HX.out ?_ ?_ ?_);rfl;rfl) | ((with_reducible refine z0i HX'.out ?_ ?_ ?_);rfl;rfl) | ((with_reducible refine z0h HX.out ?_ ?_ ?_);rfl;rfl) | ((with_reducible refine z0h HX'.out ?_ ?_ ?_);rfl;rfl))
 refine hpp.mono ?_
 rintro e w2 ⟨rfl,h2⟩
 have HB2:=hid (HB1.out.trans (h2.mono HB1.out.size))
 clear h2 hpp c0 d0 c1 d1 c2 d2 c3 d3 c4 d4 c8 d8 c9 d9
 go_wp2_with fail
 go_ret
 exact⟨by rw [HA.out,qk,qsg,qtx,qst,qcp,qd,qo];rfl,HB2.out⟩
structure Gz (W w:World) (B Y:Nat) (r q:Rv):Prop where
 x:RB w B r
 y:RB w Y q
 below:Below W.heap.size W w
 ord:W.heap.size≤B∧B<Y
theorem Gz.later {W w w':World} {B Y:Nat} {r q:Rv} (h:Gz W w B Y r q) (hb:Below w.heap.size w w'):Gz W w' B Y r q:=⟨h.x.later hb,h.y.later hb,h.below.trans (hb.mono h.below.size),h.ord⟩
theorem Gz.put {W w:World} {B Y:Nat} {r q:Rv} (h:Gz W w B Y r q) (j:Nat) (v:Value) (q':Rv) (he:(rcs q).setIfInBounds j v=rcs q'):Gz W (w.setCell ⟨Y,j,none⟩ v) B Y r q':=by
 have ho:=h.ord
 have hc:Chg (fun k=>k=Y) w (w.setCell ⟨Y,j,none⟩ v):=(Chg.refl _ _).setCell ⟨Y,j,none⟩ _ fun _=>rfl
 exact⟨h.x.chg hc (by omega),h.y.put j v q' he,Chg.below h.below h.below.size hc fun k hk=>by omega,h.ord⟩
theorem Gz.set {W w:World} {B Y:Nat} {r q:Rv} (h:Gz W w B Y r q) (q':Rv):Gz W (w.setRow Y (rcs q')) B Y r q':=by
 have ho:=h.ord
 have hc:Chg (fun k=>k=Y) w (w.setRow Y (rcs q')):=⟨rfl,rfl,rfl,by simp [World.setRow],fun k _ hn=>setRow_other _ _ _ _ hn⟩
 exact⟨h.x.chg hc (by omega),h.y.set q',Chg.below h.below h.below.size hc fun k hk=>by omega,h.ord⟩
theorem Gz.cy {W w:World} {B Y:Nat} {r q:Rv} (h:Gz W w B Y r q) {j:Nat} {v:Value} (hj:(rcs q)[j]?=some v):w.cell? ⟨Y,j,none⟩=some v∧w.frozen? ⟨Y,j,none⟩=false:=⟨z0a h.y hj,z0t j h.y⟩
theorem Gz.cx {W w:World} {B Y:Nat} {r q:Rv} (h:Gz W w B Y r q) {j:Nat} {v:Value} (hj:(rcs r)[j]?=some v):w.cell? ⟨B,j,none⟩=some v:=z0a h.x hj
theorem rrec_good1 (r:Rv) (L:List Ln) (T:List Tk) (M:List Ln) (W:World) (hP:RvM W r L T M) (hok:Rxok (r.x L T M)) (h1:r.ln≤1000∧r.tn≤1000∧r.wn≤1000) (hk:r.k=1):Calls Tryz.prog 47 #[.agg (rcs r)] W fun e w'=>e=.returned (.bool (z1f (r.x L T M)))∧Below W.heap.size W w':=by
 have HOK:=hid hok
 have HP:=hid hP
 have HH:=hid h1
 clear hok hP h1
 obtain⟨W1,hW1,hb1⟩:∃ W1,W.alloc (.cells (rcs r) 51)=W1∧Below W.heap.size W W1:=⟨_,rfl,(Below.refl _ _).alloc (Nat.le_refl _) _⟩
 obtain⟨B,hB⟩:∃ B,W.heap.size=B:=⟨_,rfl⟩
 have hrb:=RB.new W r
 rw [hW1,hB] at hrb
 obtain⟨Y,hY⟩:∃ Y,W1.heap.size=Y:=⟨_,rfl⟩
 have hBY:B<Y:=by have:=hrb.lt;omega
 obtain⟨w1,hw1,hx1,hb1a⟩:∃ w1,W1.alloc (.cells zr 51)=w1∧RB w1 Y rz∧Below W1.heap.size W1 w1:=⟨_,rfl,by rw [← hY];exact z0b W1 _,(Below.refl _ _).alloc (Nat.le_refl _) _⟩
 have hG1:Gz W w1 B Y r rz:=⟨hrb.later hb1a,hx1,hb1.trans (hb1a.mono hb1.size),by omega,hBY⟩
 obtain⟨w2,hw2,hG2⟩:∃ w2,w1.setRow Y (rcs (rm 1 0 0 0 false 0 0 0 0 0))=w2∧Gz W w2 B Y r (rm 1 0 0 0 false 0 0 0 0 0):=⟨_,rfl,hG1.set _⟩
 have HX1:=hid hrb
 have HW1:=hid hW1
 have HRE:=hid hB
 have HYE:=hid hY
 have HW1a:=hid hw1
 have HXZ:=hid hx1
 have HW2:=hid hw2
 have HG2:=hid hG2
 have c0:W1.cell? ⟨B,0,none⟩=some (.int .u8 r.k):=z0a hrb rfl
 rw [hk] at c0
 clear hW1 hB hY hBY hw1 hx1 hb1a hG1 hw2 hG2 hb1 hrb
 have HHK:=hid hk
 go_enter Tryz.func47,Tryz.ntmps47
 go_upto_region 1 with (fail)
 rw [HW1.out,HRE.out]
 go_upto_region 2 with ((try rw [HYE.out]);(try rw [HW1a.out]);(with_reducible refine z0e (rm 1 0 0 0 false 0 0 0 0 0) HXZ.out ?_ ?_ ?_);rfl;rfl;rw [HW2.out])
 clear c0 HX1 HW1 HRE HYE HW1a HXZ HW2
 have c0:=HG2.out.cx (j:=0) (v:=.int .u8 r.k) rfl
 have c1:=HG2.out.cx (j:=1) (v:=.int .u32 r.sg) rfl
 have c2:=HG2.out.cx (j:=2) (v:=.int .u32 r.tx) rfl
 have c3:=HG2.out.cx (j:=3) (v:=.int .u8 r.st) rfl
 have c4:=HG2.out.cx (j:=4) (v:=.bool r.cp) rfl
 have c8:=HG2.out.cx (j:=8) (v:=.int .i64 r.d) rfl
 have c9:=HG2.out.cx (j:=9) (v:=.int .u8 r.o) rfl
 rw [hk] at c0
 obtain⟨cy,cf⟩:=HG2.out.cy (j:=1) (v:=.int .u32 0) rfl
 go_upto_region 7 with (fail)
 clear cy cf
 have hq:=HG2.out.put 1 (.int .u32 r.sg) (rm 1 r.sg 0 0 false 0 0 0 0 0) rfl
 generalize w2.setCell ⟨Y,1,none⟩ (.int .u32 r.sg)=w3 at *
 have HG3:=hid hq
 clear hq HG2
 clear c0 c1 c2 c3 c4 c8 c9
 have c0:=HG3.out.cx (j:=0) (v:=.int .u8 r.k) rfl
 have c1:=HG3.out.cx (j:=1) (v:=.int .u32 r.sg) rfl
 have c2:=HG3.out.cx (j:=2) (v:=.int .u32 r.tx) rfl
 have c3:=HG3.out.cx (j:=3) (v:=.int .u8 r.st) rfl
 have c4:=HG3.out.cx (j:=4) (v:=.bool r.cp) rfl
 have c8:=HG3.out.cx (j:=8) (v:=.int .i64 r.d) rfl
 have c9:=HG3.out.cx (j:=9) (v:=.int .u8 r.o) rfl
 rw [hk] at c0
 obtain⟨w4,hgen,hq⟩:∃ w4,w3.setRow Y (rcs (Rv.withP (rm 1 r.sg 0 0 false 0 0 0 0 0) r))=w4∧Gz W w4 B Y r (Rv.withP (rm 1 r.sg 0 0 false 0 0 0 0 0) r):=⟨_,rfl,HG3.out.set _⟩
 have HGEN:=hid hgen
 have HG4:=hid hq
 clear hgen hq
 go_upto_region 8 with (first | ((with_reducible refine z3y HG3.out.x ?_ ?_);rfl) | ((with_reducible refine z4t r HG3.out.y ?_ ?_ ?_);rfl;rfl;rw [HGEN.out]))
 clear HGEN HG3
 clear c0 c1 c2 c3 c4 c8 c9
 have c0:=HG4.out.cx (j:=0) (v:=.int .u8 r.k) rfl
 have c1:=HG4.out.cx (j:=1) (v:=.int .u32 r.sg) rfl
 have c2:=HG4.out.cx (j:=2) (v:=.int .u32 r.tx) rfl
 have c3:=HG4.out.cx (j:=3) (v:=.int .u8 r.st) rfl
 have c4:=HG4.out.cx (j:=4) (v:=.bool r.cp) rfl
 have c8:=HG4.out.cx (j:=8) (v:=.int .i64 r.d) rfl
 have c9:=HG4.out.cx (j:=9) (v:=.int .u8 r.o) rfl
 rw [hk] at c0
 have HA:Hid (z1f (r.x L T M)=((r.sg != 0) && z0w 4 4 (r.pg L T M) && decide (r.x L T M=(Rv.x (Rv.withP (rm 1 r.sg 0 0 false 0 0 0 0 0) r) L T M)))):=hid (by
  have e:r.x L T M=⟨1,r.sg,r.tx,r.st,r.cp,(r.ka,r.kb,r.kc),r.d,r.o,r.pg L T M⟩:=by unfold Rv.x;rw [hk]
  rw [e,gk1 _ _ _ _ _ _ _ _]
  rfl)
 obtain⟨z,hz⟩:∃ z,decide (r.x L T M=(Rv.x (Rv.withP (rm 1 r.sg 0 0 false 0 0 0 0 0) r) L T M))=z:=⟨_,rfl⟩
 rw [hz] at HA
 have HSM:=hid (fun w (h:Gz W w B Y r (Rv.withP (rm 1 r.sg 0 0 false 0 0 0 0 0) r))=>z3b r (Rv.withP (rm 1 r.sg 0 0 false 0 0 0 0 0) r) L T M L T M w (HP.out.later h.below) (HP.out.later h.below) HH.out HH.out)
 rw [hz] at HSM
 clear hz hk
 have HGX:=HG4
 clear HG4
 cases qsg:(r.sg != 0)
 case false =>
  go_wp2_with (first | ((with_reducible refine z0d HGX.out.x ?_ ?_ ?_);rfl;rfl) | ((with_reducible refine z0d HGX.out.y ?_ ?_ ?_);rfl;rfl) | ((with_reducible refine z0h HGX.out.x ?_ ?_ ?_);rfl;rfl) | ((with_reducible refine z0i HGX.out.x ?_ ?_ ?_);rfl;rfl))
  go_ret
  exact⟨by rw [HA.out,qsg];rfl,HGX.out.below⟩
 go_wp2_with (first | ((with_reducible refine z0d HGX.out.x ?_ ?_ ?_);rfl;rfl) | ((with_reducible refine z0d HGX.out.y ?_ ?_ ?_);rfl;rfl) | ((with_reducible refine z0h HGX.out.x ?_ ?_ ?_);rfl;rfl) | ((with_reducible refine z0i HGX.out.x ?_ ?_ ?_);rfl;rfl))
 refine (q1o 4 4 r.pk r.od r.po r.lp r.ln r.lcp r.tp r.tn r.tcp r.wp r.wn r.wcp r.sk r.fr r.to r.q L T M w4 (HP.out.later HGX.out.below) HOK.out.pg HH.out).mono ?_
 rintro e w5 ⟨rfl,hcb⟩
 have hgp:z0w 4 4 ⟨r.pk,r.od,r.po,L,T,M,r.sk,r.fr,r.to,r.q⟩=z0w 4 4 (r.pg L T M):=rfl
 rw [hgp]
 clear hgp
 have HGX:=hid (HGX.out.later hcb)
 clear hcb
 clear c0 c1 c2 c3 c4 c8 c9
 have c0:=HGX.out.cx (j:=0) (v:=.int .u8 r.k) rfl
 have c1:=HGX.out.cx (j:=1) (v:=.int .u32 r.sg) rfl
 have c2:=HGX.out.cx (j:=2) (v:=.int .u32 r.tx) rfl
 have c3:=HGX.out.cx (j:=3) (v:=.int .u8 r.st) rfl
 have c4:=HGX.out.cx (j:=4) (v:=.bool r.cp) rfl
 have c8:=HGX.out.cx (j:=8) (v:=.int .i64 r.d) rfl
 have c9:=HGX.out.cx (j:=9) (v:=.int .u8 r.o) rfl
 rw [HHK.out] at c0
 cases qCP:z0w 4 4 (r.pg L T M)
 case false =>
  go_wp2_with (first | ((with_reducible refine z0d HGX.out.x ?_ ?_ ?_);rfl;rfl) | ((with_reducible refine z0d HGX.out.y ?_ ?_ ?_);rfl;rfl) | ((with_reducible refine z0h HGX.out.x ?_ ?_ ?_);rfl;rfl) | ((with_reducible refine z0i HGX.out.x ?_ ?_ ?_);rfl;rfl))
  go_ret
  exact⟨by rw [HA.out,qsg,qCP];rfl,HGX.out.below⟩
 go_wp2_with (first | ((with_reducible refine z0d HGX.out.x ?_ ?_ ?_);rfl;rfl) | ((with_reducible refine z0d HGX.out.y ?_ ?_ ?_);rfl;rfl) | ((with_reducible refine z0h HGX.out.x ?_ ?_ ?_);rfl;rfl) | ((with_reducible refine z0i HGX.out.x ?_ ?_ ?_);rfl;rfl))
 refine (HSM.out w5 HGX.out).mono ?_
 rintro e w6 ⟨rfl,hcb⟩
 have HB9:=hid (HGX.out.below.trans (hcb.mono HGX.out.below.size))
 clear hcb
 clear c0 c1 c2 c3 c4 c8 c9
 go_wp2_with fail
 go_ret
 exact⟨by rw [HA.out,qsg,qCP];rfl,HB9.out⟩
theorem rrec_good2 (r:Rv) (L:List Ln) (T:List Tk) (M:List Ln) (W:World) (hP:RvM W r L T M) (hok:Rxok (r.x L T M)) (h1:r.ln≤1000∧r.tn≤1000∧r.wn≤1000) (hk:r.k=2):Calls Tryz.prog 47 #[.agg (rcs r)] W fun e w'=>e=.returned (.bool (z1f (r.x L T M)))∧Below W.heap.size W w':=by
 have HOK:=hid hok
 have HP:=hid hP
 have HH:=hid h1
 clear hok hP h1
 obtain⟨W1,hW1,hb1⟩:∃ W1,W.alloc (.cells (rcs r) 51)=W1∧Below W.heap.size W W1:=⟨_,rfl,(Below.refl _ _).alloc (Nat.le_refl _) _⟩
 obtain⟨B,hB⟩:∃ B,W.heap.size=B:=⟨_,rfl⟩
 have hrb:=RB.new W r
 rw [hW1,hB] at hrb
 obtain⟨Y,hY⟩:∃ Y,W1.heap.size=Y:=⟨_,rfl⟩
 have hBY:B<Y:=by have:=hrb.lt;omega
 obtain⟨w1,hw1,hx1,hb1a⟩:∃ w1,W1.alloc (.cells zr 51)=w1∧RB w1 Y rz∧Below W1.heap.size W1 w1:=⟨_,rfl,by rw [← hY];exact z0b W1 _,(Below.refl _ _).alloc (Nat.le_refl _) _⟩
 have hG1:Gz W w1 B Y r rz:=⟨hrb.later hb1a,hx1,hb1.trans (hb1a.mono hb1.size),by omega,hBY⟩
 obtain⟨w2,hw2,hG2⟩:∃ w2,w1.setRow Y (rcs (rm 2 0 0 0 false 0 0 0 0 0))=w2∧Gz W w2 B Y r (rm 2 0 0 0 false 0 0 0 0 0):=⟨_,rfl,hG1.set _⟩
 have HX1:=hid hrb
 have HW1:=hid hW1
 have HRE:=hid hB
 have HYE:=hid hY
 have HW1a:=hid hw1
 have HXZ:=hid hx1
 have HW2:=hid hw2
 have HG2:=hid hG2
 have c0:W1.cell? ⟨B,0,none⟩=some (.int .u8 r.k):=z0a hrb rfl
 rw [hk] at c0
 clear hW1 hB hY hBY hw1 hx1 hb1a hG1 hw2 hG2 hb1 hrb
 have HHK:=hid hk
 go_enter Tryz.func47,Tryz.ntmps47
 go_upto_region 1 with (fail)
 rw [HW1.out,HRE.out]
 go_upto_region 2 with ((try rw [HYE.out]);(try rw [HW1a.out]);(with_reducible refine z0e (rm 2 0 0 0 false 0 0 0 0 0) HXZ.out ?_ ?_ ?_);rfl;rfl;rw [HW2.out])
 clear c0 HX1 HW1 HRE HYE HW1a HXZ HW2
 have c0:=HG2.out.cx (j:=0) (v:=.int .u8 r.k) rfl
 have c1:=HG2.out.cx (j:=1) (v:=.int .u32 r.sg) rfl
 have c2:=HG2.out.cx (j:=2) (v:=.int .u32 r.tx) rfl
 have c3:=HG2.out.cx (j:=3) (v:=.int .u8 r.st) rfl
 have c4:=HG2.out.cx (j:=4) (v:=.bool r.cp) rfl
 have c8:=HG2.out.cx (j:=8) (v:=.int .i64 r.d) rfl
 have c9:=HG2.out.cx (j:=9) (v:=.int .u8 r.o) rfl
 rw [hk] at c0
 obtain⟨cy,cf⟩:=HG2.out.cy (j:=1) (v:=.int .u32 0) rfl
 go_upto_region 11 with (fail)
 clear cy cf
 have hq:=HG2.out.put 1 (.int .u32 r.sg) (rm 2 r.sg 0 0 false 0 0 0 0 0) rfl
 generalize w2.setCell ⟨Y,1,none⟩ (.int .u32 r.sg)=w3 at *
 have HG3:=hid hq
 clear hq HG2
 clear c0 c1 c2 c3 c4 c8 c9
 have c0:=HG3.out.cx (j:=0) (v:=.int .u8 r.k) rfl
 have c1:=HG3.out.cx (j:=1) (v:=.int .u32 r.sg) rfl
 have c2:=HG3.out.cx (j:=2) (v:=.int .u32 r.tx) rfl
 have c3:=HG3.out.cx (j:=3) (v:=.int .u8 r.st) rfl
 have c4:=HG3.out.cx (j:=4) (v:=.bool r.cp) rfl
 have c8:=HG3.out.cx (j:=8) (v:=.int .i64 r.d) rfl
 have c9:=HG3.out.cx (j:=9) (v:=.int .u8 r.o) rfl
 rw [hk] at c0
 obtain⟨cy,cf⟩:=HG3.out.cy (j:=2) (v:=.int .u32 0) rfl
 go_upto_region 12 with (fail)
 clear cy cf
 have hq:=HG3.out.put 2 (.int .u32 r.tx) (rm 2 r.sg r.tx 0 false 0 0 0 0 0) rfl
 generalize w3.setCell ⟨Y,2,none⟩ (.int .u32 r.tx)=w4 at *
 have HG4:=hid hq
 clear hq HG3
 clear c0 c1 c2 c3 c4 c8 c9
 have c0:=HG4.out.cx (j:=0) (v:=.int .u8 r.k) rfl
 have c1:=HG4.out.cx (j:=1) (v:=.int .u32 r.sg) rfl
 have c2:=HG4.out.cx (j:=2) (v:=.int .u32 r.tx) rfl
 have c3:=HG4.out.cx (j:=3) (v:=.int .u8 r.st) rfl
 have c4:=HG4.out.cx (j:=4) (v:=.bool r.cp) rfl
 have c8:=HG4.out.cx (j:=8) (v:=.int .i64 r.d) rfl
 have c9:=HG4.out.cx (j:=9) (v:=.int .u8 r.o) rfl
 rw [hk] at c0
 obtain⟨cy,cf⟩:=HG4.out.cy (j:=3) (v:=.int .u8 0) rfl
 go_upto_region 13 with (fail)
 clear cy cf
 have hq:=HG4.out.put 3 (.int .u8 r.st) (rm 2 r.sg r.tx r.st false 0 0 0 0 0) rfl
 generalize w4.setCell ⟨Y,3,none⟩ (.int .u8 r.st)=w5 at *
 have HG5:=hid hq
 clear hq HG4
 clear c0 c1 c2 c3 c4 c8 c9
 have c0:=HG5.out.cx (j:=0) (v:=.int .u8 r.k) rfl
 have c1:=HG5.out.cx (j:=1) (v:=.int .u32 r.sg) rfl
 have c2:=HG5.out.cx (j:=2) (v:=.int .u32 r.tx) rfl
 have c3:=HG5.out.cx (j:=3) (v:=.int .u8 r.st) rfl
 have c4:=HG5.out.cx (j:=4) (v:=.bool r.cp) rfl
 have c8:=HG5.out.cx (j:=8) (v:=.int .i64 r.d) rfl
 have c9:=HG5.out.cx (j:=9) (v:=.int .u8 r.o) rfl
 rw [hk] at c0
 obtain⟨cy,cf⟩:=HG5.out.cy (j:=4) (v:=.bool false) rfl
 go_upto_region 14 with (fail)
 clear cy cf
 have hq:=HG5.out.put 4 (.bool r.cp) (rm 2 r.sg r.tx r.st r.cp 0 0 0 0 0) rfl
 generalize w5.setCell ⟨Y,4,none⟩ (.bool r.cp)=w6 at *
 have HG6:=hid hq
 clear hq HG5
 clear c0 c1 c2 c3 c4 c8 c9
 have c0:=HG6.out.cx (j:=0) (v:=.int .u8 r.k) rfl
 have c1:=HG6.out.cx (j:=1) (v:=.int .u32 r.sg) rfl
 have c2:=HG6.out.cx (j:=2) (v:=.int .u32 r.tx) rfl
 have c3:=HG6.out.cx (j:=3) (v:=.int .u8 r.st) rfl
 have c4:=HG6.out.cx (j:=4) (v:=.bool r.cp) rfl
 have c8:=HG6.out.cx (j:=8) (v:=.int .i64 r.d) rfl
 have c9:=HG6.out.cx (j:=9) (v:=.int .u8 r.o) rfl
 rw [hk] at c0
 have HA:Hid (z1f (r.x L T M)=((r.sg != 0) && (r.tx != 0) && decide (r.st<5) && decide (r.x L T M=(Rv.x (rm 2 r.sg r.tx r.st r.cp 0 0 0 0 0) [] [] [])))):=hid (by
  have e:r.x L T M=⟨2,r.sg,r.tx,r.st,r.cp,(r.ka,r.kb,r.kc),r.d,r.o,r.pg L T M⟩:=by unfold Rv.x;rw [hk]
  rw [e,gk2 _ _ _ _ _ _ _ _]
  rfl)
 obtain⟨z,hz⟩:∃ z,decide (r.x L T M=(Rv.x (rm 2 r.sg r.tx r.st r.cp 0 0 0 0 0) [] [] []))=z:=⟨_,rfl⟩
 rw [hz] at HA
 have HSM:=hid (fun w (h:Gz W w B Y r (rm 2 r.sg r.tx r.st r.cp 0 0 0 0 0))=>z3b r (rm 2 r.sg r.tx r.st r.cp 0 0 0 0 0) L T M [] [] [] w (HP.out.later h.below) (z1b _ _ _ _ _ _ _ _ _ _ _) HH.out ⟨Nat.zero_le _,Nat.zero_le _,Nat.zero_le _⟩)
 rw [hz] at HSM
 clear hz hk
 have HGX:=HG6
 clear HG6
 cases qsg:(r.sg != 0)
 case false =>
  go_wp2_with (first | ((with_reducible refine z0d HGX.out.x ?_ ?_ ?_);rfl;rfl) | ((with_reducible refine z0d HGX.out.y ?_ ?_ ?_);rfl;rfl) | ((with_reducible refine z0h HGX.out.x ?_ ?_ ?_);rfl;rfl) | ((with_reducible refine z0i HGX.out.x ?_ ?_ ?_);rfl;rfl))
  go_ret
  exact⟨by rw [HA.out,qsg];rfl,HGX.out.below⟩
 cases qtx:(r.tx != 0)
 case false =>
  go_wp2_with (first | ((with_reducible refine z0d HGX.out.x ?_ ?_ ?_);rfl;rfl) | ((with_reducible refine z0d HGX.out.y ?_ ?_ ?_);rfl;rfl) | ((with_reducible refine z0h HGX.out.x ?_ ?_ ?_);rfl;rfl) | ((with_reducible refine z0i HGX.out.x ?_ ?_ ?_);rfl;rfl))
  go_ret
  exact⟨by rw [HA.out,qsg,qtx];rfl,HGX.out.below⟩
 cases qLT:decide (r.st<5)
 case false =>
  go_wp2_with (first | ((with_reducible refine z0d HGX.out.x ?_ ?_ ?_);rfl;rfl) | ((with_reducible refine z0d HGX.out.y ?_ ?_ ?_);rfl;rfl) | ((with_reducible refine z0h HGX.out.x ?_ ?_ ?_);rfl;rfl) | ((with_reducible refine z0i HGX.out.x ?_ ?_ ?_);rfl;rfl))
  go_ret
  exact⟨by rw [HA.out,qsg,qtx,qLT];rfl,HGX.out.below⟩
 go_wp2_with (first | ((with_reducible refine z0d HGX.out.x ?_ ?_ ?_);rfl;rfl) | ((with_reducible refine z0d HGX.out.y ?_ ?_ ?_);rfl;rfl) | ((with_reducible refine z0h HGX.out.x ?_ ?_ ?_);rfl;rfl) | ((with_reducible refine z0i HGX.out.x ?_ ?_ ?_);rfl;rfl))
 refine (HSM.out w6 HGX.out).mono ?_
 rintro e w7 ⟨rfl,hcb⟩
 have HB9:=hid (HGX.out.below.trans (hcb.mono HGX.out.below.size))
 clear hcb
 clear c0 c1 c2 c3 c4 c8 c9
 go_wp2_with fail
 go_ret
 exact⟨by rw [HA.out,qsg,qtx,qLT];rfl,HB9.out⟩
theorem rrec_good3 (r:Rv) (L:List Ln) (T:List Tk) (M:List Ln) (W:World) (hP:RvM W r L T M) (hok:Rxok (r.x L T M)) (h1:r.ln≤1000∧r.tn≤1000∧r.wn≤1000) (hk:r.k=3):Calls Tryz.prog 47 #[.agg (rcs r)] W fun e w'=>e=.returned (.bool (z1f (r.x L T M)))∧Below W.heap.size W w':=by
 have HOK:=hid hok
 have HP:=hid hP
 have HH:=hid h1
 clear hok hP h1
 obtain⟨W1,hW1,hb1⟩:∃ W1,W.alloc (.cells (rcs r) 51)=W1∧Below W.heap.size W W1:=⟨_,rfl,(Below.refl _ _).alloc (Nat.le_refl _) _⟩
 obtain⟨B,hB⟩:∃ B,W.heap.size=B:=⟨_,rfl⟩
 have hrb:=RB.new W r
 rw [hW1,hB] at hrb
 obtain⟨Y,hY⟩:∃ Y,W1.heap.size=Y:=⟨_,rfl⟩
 have hBY:B<Y:=by have:=hrb.lt;omega
 obtain⟨w1,hw1,hx1,hb1a⟩:∃ w1,W1.alloc (.cells zr 51)=w1∧RB w1 Y rz∧Below W1.heap.size W1 w1:=⟨_,rfl,by rw [← hY];exact z0b W1 _,(Below.refl _ _).alloc (Nat.le_refl _) _⟩
 have hG1:Gz W w1 B Y r rz:=⟨hrb.later hb1a,hx1,hb1.trans (hb1a.mono hb1.size),by omega,hBY⟩
 obtain⟨w2,hw2,hG2⟩:∃ w2,w1.setRow Y (rcs (rm 3 0 0 0 false 0 0 0 0 0))=w2∧Gz W w2 B Y r (rm 3 0 0 0 false 0 0 0 0 0):=⟨_,rfl,hG1.set _⟩
 have HX1:=hid hrb
 have HW1:=hid hW1
 have HRE:=hid hB
 have HYE:=hid hY
 have HW1a:=hid hw1
 have HXZ:=hid hx1
 have HW2:=hid hw2
 have HG2:=hid hG2
 have c0:W1.cell? ⟨B,0,none⟩=some (.int .u8 r.k):=z0a hrb rfl
 rw [hk] at c0
 clear hW1 hB hY hBY hw1 hx1 hb1a hG1 hw2 hG2 hb1 hrb
 have HHK:=hid hk
 go_enter Tryz.func47,Tryz.ntmps47
 go_upto_region 1 with (fail)
 rw [HW1.out,HRE.out]
 go_upto_region 2 with ((try rw [HYE.out]);(try rw [HW1a.out]);(with_reducible refine z0e (rm 3 0 0 0 false 0 0 0 0 0) HXZ.out ?_ ?_ ?_);rfl;rfl;rw [HW2.out])
 clear c0 HX1 HW1 HRE HYE HW1a HXZ HW2
 have c0:=HG2.out.cx (j:=0) (v:=.int .u8 r.k) rfl
 have c1:=HG2.out.cx (j:=1) (v:=.int .u32 r.sg) rfl
 have c2:=HG2.out.cx (j:=2) (v:=.int .u32 r.tx) rfl
 have c3:=HG2.out.cx (j:=3) (v:=.int .u8 r.st) rfl
 have c4:=HG2.out.cx (j:=4) (v:=.bool r.cp) rfl
 have c8:=HG2.out.cx (j:=8) (v:=.int .i64 r.d) rfl
 have c9:=HG2.out.cx (j:=9) (v:=.int .u8 r.o) rfl
 rw [hk] at c0
 obtain⟨cy,cf⟩:=HG2.out.cy (j:=2) (v:=.int .u32 0) rfl
 go_upto_region 18 with (fail)
 clear cy cf
 have hq:=HG2.out.put 2 (.int .u32 r.tx) (rm 3 0 r.tx 0 false 0 0 0 0 0) rfl
 generalize w2.setCell ⟨Y,2,none⟩ (.int .u32 r.tx)=w3 at *
 have HG3:=hid hq
 clear hq HG2
 clear c0 c1 c2 c3 c4 c8 c9
 have c0:=HG3.out.cx (j:=0) (v:=.int .u8 r.k) rfl
 have c1:=HG3.out.cx (j:=1) (v:=.int .u32 r.sg) rfl
 have c2:=HG3.out.cx (j:=2) (v:=.int .u32 r.tx) rfl
 have c3:=HG3.out.cx (j:=3) (v:=.int .u8 r.st) rfl
 have c4:=HG3.out.cx (j:=4) (v:=.bool r.cp) rfl
 have c8:=HG3.out.cx (j:=8) (v:=.int .i64 r.d) rfl
 have c9:=HG3.out.cx (j:=9) (v:=.int .u8 r.o) rfl
 rw [hk] at c0
 obtain⟨w4,hgen,hq⟩:∃ w4,w3.setRow Y (rcs { (rm 3 0 r.tx 0 false 0 0 0 0 0) with ka:=r.ka,kb:=r.kb,kc:=r.kc })=w4∧Gz W w4 B Y r (rm 3 0 r.tx 0 false r.ka r.kb r.kc 0 0):=⟨_,rfl,HG3.out.set (rm 3 0 r.tx 0 false r.ka r.kb r.kc 0 0)⟩
 have HGEN:=hid hgen
 have HG4:=hid hq
 clear hgen hq
 go_upto_region 19 with (first | ((with_reducible refine z2i HG3.out.x ?_ ?_);rfl) | ((with_reducible refine z3n r.ka r.kb r.kc HG3.out.y ?_ ?_ ?_);rfl;rfl;rw [HGEN.out]))
 clear HGEN HG3
 clear c0 c1 c2 c3 c4 c8 c9
 have c0:=HG4.out.cx (j:=0) (v:=.int .u8 r.k) rfl
 have c1:=HG4.out.cx (j:=1) (v:=.int .u32 r.sg) rfl
 have c2:=HG4.out.cx (j:=2) (v:=.int .u32 r.tx) rfl
 have c3:=HG4.out.cx (j:=3) (v:=.int .u8 r.st) rfl
 have c4:=HG4.out.cx (j:=4) (v:=.bool r.cp) rfl
 have c8:=HG4.out.cx (j:=8) (v:=.int .i64 r.d) rfl
 have c9:=HG4.out.cx (j:=9) (v:=.int .u8 r.o) rfl
 rw [hk] at c0
 obtain⟨cy,cf⟩:=HG4.out.cy (j:=8) (v:=.int .i64 0) rfl
 go_upto_region 20 with (fail)
 clear cy cf
 have hq:=HG4.out.put 8 (.int .i64 r.d) (rm 3 0 r.tx 0 false r.ka r.kb r.kc r.d 0) rfl
 generalize w4.setCell ⟨Y,8,none⟩ (.int .i64 r.d)=w5 at *
 have HG5:=hid hq
 clear hq HG4
 clear c0 c1 c2 c3 c4 c8 c9
 have c0:=HG5.out.cx (j:=0) (v:=.int .u8 r.k) rfl
 have c1:=HG5.out.cx (j:=1) (v:=.int .u32 r.sg) rfl
 have c2:=HG5.out.cx (j:=2) (v:=.int .u32 r.tx) rfl
 have c3:=HG5.out.cx (j:=3) (v:=.int .u8 r.st) rfl
 have c4:=HG5.out.cx (j:=4) (v:=.bool r.cp) rfl
 have c8:=HG5.out.cx (j:=8) (v:=.int .i64 r.d) rfl
 have c9:=HG5.out.cx (j:=9) (v:=.int .u8 r.o) rfl
 rw [hk] at c0
 have HA:Hid (z1f (r.x L T M)=((r.tx != 0) && z4p 4 4 r.ka r.kb r.kc && (r.d != 0) && decide (-9223372036854775807≤r.d) && decide (r.x L T M=(Rv.x (rm 3 0 r.tx 0 false r.ka r.kb r.kc r.d 0) [] [] [])))):=hid (by
  have e:r.x L T M=⟨3,r.sg,r.tx,r.st,r.cp,(r.ka,r.kb,r.kc),r.d,r.o,r.pg L T M⟩:=by unfold Rv.x;rw [hk]
  rw [e,gk3 _ _ _ _ _ _ _ _ (show In64 r.d from HOK.out.d)]
  rfl)
 obtain⟨z,hz⟩:∃ z,decide (r.x L T M=(Rv.x (rm 3 0 r.tx 0 false r.ka r.kb r.kc r.d 0) [] [] []))=z:=⟨_,rfl⟩
 rw [hz] at HA
 have HSM:=hid (fun w (h:Gz W w B Y r (rm 3 0 r.tx 0 false r.ka r.kb r.kc r.d 0))=>z3b r (rm 3 0 r.tx 0 false r.ka r.kb r.kc r.d 0) L T M [] [] [] w (HP.out.later h.below) (z1b _ _ _ _ _ _ _ _ _ _ _) HH.out ⟨Nat.zero_le _,Nat.zero_le _,Nat.zero_le _⟩)
 rw [hz] at HSM
 clear hz hk
 have HGX:=HG5
 clear HG5
 cases qtx:(r.tx != 0)
 case false =>
  go_wp2_with (first | ((with_reducible refine z0d HGX.out.x ?_ ?_ ?_);rfl;rfl) | ((with_reducible refine z0d HGX.out.y ?_ ?_ ?_);rfl;rfl) | ((with_reducible refine z0h HGX.out.x ?_ ?_ ?_);rfl;rfl) | ((with_reducible refine z0i HGX.out.x ?_ ?_ ?_);rfl;rfl))
  go_ret
  exact⟨by rw [HA.out,qtx];rfl,HGX.out.below⟩
 go_wp2_with (first | ((with_reducible refine z0d HGX.out.x ?_ ?_ ?_);rfl;rfl) | ((with_reducible refine z0d HGX.out.y ?_ ?_ ?_);rfl;rfl) | ((with_reducible refine z0h HGX.out.x ?_ ?_ ?_);rfl;rfl) | ((with_reducible refine z0i HGX.out.x ?_ ?_ ?_);rfl;rfl))
 refine (refgood_any 4 4 r.ka r.kb r.kc HOK.out.key.2.1 HOK.out.key.2.2 w5).mono ?_
 rintro e w6 ⟨rfl,hgr⟩
 have hcb:=hgr.below
 clear hgr
 have HGX:=hid (HGX.out.later hcb)
 clear hcb
 clear c0 c1 c2 c3 c4 c8 c9
 have c0:=HGX.out.cx (j:=0) (v:=.int .u8 r.k) rfl
 have c1:=HGX.out.cx (j:=1) (v:=.int .u32 r.sg) rfl
 have c2:=HGX.out.cx (j:=2) (v:=.int .u32 r.tx) rfl
 have c3:=HGX.out.cx (j:=3) (v:=.int .u8 r.st) rfl
 have c4:=HGX.out.cx (j:=4) (v:=.bool r.cp) rfl
 have c8:=HGX.out.cx (j:=8) (v:=.int .i64 r.d) rfl
 have c9:=HGX.out.cx (j:=9) (v:=.int .u8 r.o) rfl
 rw [HHK.out] at c0
 cases qCK:z4p 4 4 r.ka r.kb r.kc
 case false =>
  go_wp2_with (first | ((with_reducible refine z0d HGX.out.x ?_ ?_ ?_);rfl;rfl) | ((with_reducible refine z0d HGX.out.y ?_ ?_ ?_);rfl;rfl) | ((with_reducible refine z0h HGX.out.x ?_ ?_ ?_);rfl;rfl) | ((with_reducible refine z0i HGX.out.x ?_ ?_ ?_);rfl;rfl))
  go_ret
  exact⟨by rw [HA.out,qtx,qCK];rfl,HGX.out.below⟩
 cases qdn:(r.d != 0)
 case false =>
  go_wp2_with (first | ((with_reducible refine z0d HGX.out.x ?_ ?_ ?_);rfl;rfl) | ((with_reducible refine z0d HGX.out.y ?_ ?_ ?_);rfl;rfl) | ((with_reducible refine z0h HGX.out.x ?_ ?_ ?_);rfl;rfl) | ((with_reducible refine z0i HGX.out.x ?_ ?_ ?_);rfl;rfl))
  go_ret
  exact⟨by rw [HA.out,qtx,qCK,qdn];rfl,HGX.out.below⟩
 cases qdg:decide (-9223372036854775807≤r.d)
 case false =>
  go_wp2_with (first | ((with_reducible refine z0d HGX.out.x ?_ ?_ ?_);rfl;rfl) | ((with_reducible refine z0d HGX.out.y ?_ ?_ ?_);rfl;rfl) | ((with_reducible refine z0h HGX.out.x ?_ ?_ ?_);rfl;rfl) | ((with_reducible refine z0i HGX.out.x ?_ ?_ ?_);rfl;rfl))
  go_ret
  exact⟨by rw [HA.out,qtx,qCK,qdn,qdg];rfl,HGX.out.below⟩
 go_wp2_with (first | ((with_reducible refine z0d HGX.out.x ?_ ?_ ?_);rfl;rfl) | ((with_reducible refine z0d HGX.out.y ?_ ?_ ?_);rfl;rfl) | ((with_reducible refine z0h HGX.out.x ?_ ?_ ?_);rfl;rfl) | ((with_reducible refine z0i HGX.out.x ?_ ?_ ?_);rfl;rfl))
 refine (HSM.out w6 HGX.out).mono ?_
 rintro e w7 ⟨rfl,hcb⟩
 have HB9:=hid (HGX.out.below.trans (hcb.mono HGX.out.below.size))
 clear hcb
 clear c0 c1 c2 c3 c4 c8 c9
 go_wp2_with fail
 go_ret
 exact⟨by rw [HA.out,qtx,qCK,qdn,qdg];rfl,HB9.out⟩
theorem rrec_good4 (r:Rv) (L:List Ln) (T:List Tk) (M:List Ln) (W:World) (hP:RvM W r L T M) (hok:Rxok (r.x L T M)) (h1:r.ln≤1000∧r.tn≤1000∧r.wn≤1000) (hk:r.k=4):Calls Tryz.prog 47 #[.agg (rcs r)] W fun e w'=>e=.returned (.bool (z1f (r.x L T M)))∧Below W.heap.size W w':=by
 have HOK:=hid hok
 have HP:=hid hP
 have HH:=hid h1
 clear hok hP h1
 obtain⟨W1,hW1,hb1⟩:∃ W1,W.alloc (.cells (rcs r) 51)=W1∧Below W.heap.size W W1:=⟨_,rfl,(Below.refl _ _).alloc (Nat.le_refl _) _⟩
 obtain⟨B,hB⟩:∃ B,W.heap.size=B:=⟨_,rfl⟩
 have hrb:=RB.new W r
 rw [hW1,hB] at hrb
 obtain⟨Y,hY⟩:∃ Y,W1.heap.size=Y:=⟨_,rfl⟩
 have hBY:B<Y:=by have:=hrb.lt;omega
 obtain⟨w1,hw1,hx1,hb1a⟩:∃ w1,W1.alloc (.cells zr 51)=w1∧RB w1 Y rz∧Below W1.heap.size W1 w1:=⟨_,rfl,by rw [← hY];exact z0b W1 _,(Below.refl _ _).alloc (Nat.le_refl _) _⟩
 have hG1:Gz W w1 B Y r rz:=⟨hrb.later hb1a,hx1,hb1.trans (hb1a.mono hb1.size),by omega,hBY⟩
 obtain⟨w2,hw2,hG2⟩:∃ w2,w1.setRow Y (rcs (rm 4 0 0 0 false 0 0 0 0 0))=w2∧Gz W w2 B Y r (rm 4 0 0 0 false 0 0 0 0 0):=⟨_,rfl,hG1.set _⟩
 have HX1:=hid hrb
 have HW1:=hid hW1
 have HRE:=hid hB
 have HYE:=hid hY
 have HW1a:=hid hw1
 have HXZ:=hid hx1
 have HW2:=hid hw2
 have HG2:=hid hG2
 have c0:W1.cell? ⟨B,0,none⟩=some (.int .u8 r.k):=z0a hrb rfl
 rw [hk] at c0
 clear hW1 hB hY hBY hw1 hx1 hb1a hG1 hw2 hG2 hb1 hrb
 have HHK:=hid hk
 go_enter Tryz.func47,Tryz.ntmps47
 go_upto_region 1 with (fail)
 rw [HW1.out,HRE.out]
 go_upto_region 2 with ((try rw [HYE.out]);(try rw [HW1a.out]);(with_reducible refine z0e (rm 4 0 0 0 false 0 0 0 0 0) HXZ.out ?_ ?_ ?_);rfl;rfl;rw [HW2.out])
 clear c0 HX1 HW1 HRE HYE HW1a HXZ HW2
 have c0:=HG2.out.cx (j:=0) (v:=.int .u8 r.k) rfl
 have c1:=HG2.out.cx (j:=1) (v:=.int .u32 r.sg) rfl
 have c2:=HG2.out.cx (j:=2) (v:=.int .u32 r.tx) rfl
 have c3:=HG2.out.cx (j:=3) (v:=.int .u8 r.st) rfl
 have c4:=HG2.out.cx (j:=4) (v:=.bool r.cp) rfl
 have c8:=HG2.out.cx (j:=8) (v:=.int .i64 r.d) rfl
 have c9:=HG2.out.cx (j:=9) (v:=.int .u8 r.o) rfl
 rw [hk] at c0
 obtain⟨cy,cf⟩:=HG2.out.cy (j:=2) (v:=.int .u32 0) rfl
 go_upto_region 25 with (fail)
 clear cy cf
 have hq:=HG2.out.put 2 (.int .u32 r.tx) (rm 4 0 r.tx 0 false 0 0 0 0 0) rfl
 generalize w2.setCell ⟨Y,2,none⟩ (.int .u32 r.tx)=w3 at *
 have HG3:=hid hq
 clear hq HG2
 clear c0 c1 c2 c3 c4 c8 c9
 have c0:=HG3.out.cx (j:=0) (v:=.int .u8 r.k) rfl
 have c1:=HG3.out.cx (j:=1) (v:=.int .u32 r.sg) rfl
 have c2:=HG3.out.cx (j:=2) (v:=.int .u32 r.tx) rfl
 have c3:=HG3.out.cx (j:=3) (v:=.int .u8 r.st) rfl
 have c4:=HG3.out.cx (j:=4) (v:=.bool r.cp) rfl
 have c8:=HG3.out.cx (j:=8) (v:=.int .i64 r.d) rfl
 have c9:=HG3.out.cx (j:=9) (v:=.int .u8 r.o) rfl
 rw [hk] at c0
 have HA:Hid (z1f (r.x L T M)=((r.tx != 0) && decide (r.x L T M=(Rv.x (rm 4 0 r.tx 0 false 0 0 0 0 0) [] [] [])))):=hid (by
  have e:r.x L T M=⟨4,r.sg,r.tx,r.st,r.cp,(r.ka,r.kb,r.kc),r.d,r.o,r.pg L T M⟩:=by unfold Rv.x;rw [hk]
  rw [e,gk4 _ _ _ _ _ _ _ _ _ (Or.inl rfl)]
  rfl)
 obtain⟨z,hz⟩:∃ z,decide (r.x L T M=(Rv.x (rm 4 0 r.tx 0 false 0 0 0 0 0) [] [] []))=z:=⟨_,rfl⟩
 rw [hz] at HA
 have HSM:=hid (fun w (h:Gz W w B Y r (rm 4 0 r.tx 0 false 0 0 0 0 0))=>z3b r (rm 4 0 r.tx 0 false 0 0 0 0 0) L T M [] [] [] w (HP.out.later h.below) (z1b _ _ _ _ _ _ _ _ _ _ _) HH.out ⟨Nat.zero_le _,Nat.zero_le _,Nat.zero_le _⟩)
 rw [hz] at HSM
 clear hz hk
 have HGX:=HG3
 clear HG3
 cases qtx:(r.tx != 0)
 case false =>
  go_wp2_with (first | ((with_reducible refine z0d HGX.out.x ?_ ?_ ?_);rfl;rfl) | ((with_reducible refine z0d HGX.out.y ?_ ?_ ?_);rfl;rfl) | ((with_reducible refine z0h HGX.out.x ?_ ?_ ?_);rfl;rfl) | ((with_reducible refine z0i HGX.out.x ?_ ?_ ?_);rfl;rfl))
  go_ret
  exact⟨by rw [HA.out,qtx];rfl,HGX.out.below⟩
 go_wp2_with (first | ((with_reducible refine z0d HGX.out.x ?_ ?_ ?_);rfl;rfl) | ((with_reducible refine z0d HGX.out.y ?_ ?_ ?_);rfl;rfl) | ((with_reducible refine z0h HGX.out.x ?_ ?_ ?_);rfl;rfl) | ((with_reducible refine z0i HGX.out.x ?_ ?_ ?_);rfl;rfl))
 refine (HSM.out w3 HGX.out).mono ?_
 rintro e w4 ⟨rfl,hcb⟩
 have HB9:=hid (HGX.out.below.trans (hcb.mono HGX.out.below.size))
 clear hcb
 clear c0 c1 c2 c3 c4 c8 c9
 go_wp2_with fail
 go_ret
 exact⟨by rw [HA.out,qtx];rfl,HB9.out⟩
theorem rrec_good5 (r:Rv) (L:List Ln) (T:List Tk) (M:List Ln) (W:World) (hP:RvM W r L T M) (hok:Rxok (r.x L T M)) (h1:r.ln≤1000∧r.tn≤1000∧r.wn≤1000) (hk:r.k=5):Calls Tryz.prog 47 #[.agg (rcs r)] W fun e w'=>e=.returned (.bool (z1f (r.x L T M)))∧Below W.heap.size W w':=by
 have HOK:=hid hok
 have HP:=hid hP
 have HH:=hid h1
 clear hok hP h1
 obtain⟨W1,hW1,hb1⟩:∃ W1,W.alloc (.cells (rcs r) 51)=W1∧Below W.heap.size W W1:=⟨_,rfl,(Below.refl _ _).alloc (Nat.le_refl _) _⟩
 obtain⟨B,hB⟩:∃ B,W.heap.size=B:=⟨_,rfl⟩
 have hrb:=RB.new W r
 rw [hW1,hB] at hrb
 obtain⟨Y,hY⟩:∃ Y,W1.heap.size=Y:=⟨_,rfl⟩
 have hBY:B<Y:=by have:=hrb.lt;omega
 obtain⟨w1,hw1,hx1,hb1a⟩:∃ w1,W1.alloc (.cells zr 51)=w1∧RB w1 Y rz∧Below W1.heap.size W1 w1:=⟨_,rfl,by rw [← hY];exact z0b W1 _,(Below.refl _ _).alloc (Nat.le_refl _) _⟩
 have hG1:Gz W w1 B Y r rz:=⟨hrb.later hb1a,hx1,hb1.trans (hb1a.mono hb1.size),by omega,hBY⟩
 obtain⟨w2,hw2,hG2⟩:∃ w2,w1.setRow Y (rcs (rm 5 0 0 0 false 0 0 0 0 0))=w2∧Gz W w2 B Y r (rm 5 0 0 0 false 0 0 0 0 0):=⟨_,rfl,hG1.set _⟩
 have HX1:=hid hrb
 have HW1:=hid hW1
 have HRE:=hid hB
 have HYE:=hid hY
 have HW1a:=hid hw1
 have HXZ:=hid hx1
 have HW2:=hid hw2
 have HG2:=hid hG2
 have c0:W1.cell? ⟨B,0,none⟩=some (.int .u8 r.k):=z0a hrb rfl
 rw [hk] at c0
 clear hW1 hB hY hBY hw1 hx1 hb1a hG1 hw2 hG2 hb1 hrb
 have HHK:=hid hk
 go_enter Tryz.func47,Tryz.ntmps47
 go_upto_region 1 with (fail)
 rw [HW1.out,HRE.out]
 go_upto_region 2 with ((try rw [HYE.out]);(try rw [HW1a.out]);(with_reducible refine z0e (rm 5 0 0 0 false 0 0 0 0 0) HXZ.out ?_ ?_ ?_);rfl;rfl;rw [HW2.out])
 clear c0 HX1 HW1 HRE HYE HW1a HXZ HW2
 have c0:=HG2.out.cx (j:=0) (v:=.int .u8 r.k) rfl
 have c1:=HG2.out.cx (j:=1) (v:=.int .u32 r.sg) rfl
 have c2:=HG2.out.cx (j:=2) (v:=.int .u32 r.tx) rfl
 have c3:=HG2.out.cx (j:=3) (v:=.int .u8 r.st) rfl
 have c4:=HG2.out.cx (j:=4) (v:=.bool r.cp) rfl
 have c8:=HG2.out.cx (j:=8) (v:=.int .i64 r.d) rfl
 have c9:=HG2.out.cx (j:=9) (v:=.int .u8 r.o) rfl
 rw [hk] at c0
 obtain⟨cy,cf⟩:=HG2.out.cy (j:=2) (v:=.int .u32 0) rfl
 go_upto_region 25 with (fail)
 clear cy cf
 have hq:=HG2.out.put 2 (.int .u32 r.tx) (rm 5 0 r.tx 0 false 0 0 0 0 0) rfl
 generalize w2.setCell ⟨Y,2,none⟩ (.int .u32 r.tx)=w3 at *
 have HG3:=hid hq
 clear hq HG2
 clear c0 c1 c2 c3 c4 c8 c9
 have c0:=HG3.out.cx (j:=0) (v:=.int .u8 r.k) rfl
 have c1:=HG3.out.cx (j:=1) (v:=.int .u32 r.sg) rfl
 have c2:=HG3.out.cx (j:=2) (v:=.int .u32 r.tx) rfl
 have c3:=HG3.out.cx (j:=3) (v:=.int .u8 r.st) rfl
 have c4:=HG3.out.cx (j:=4) (v:=.bool r.cp) rfl
 have c8:=HG3.out.cx (j:=8) (v:=.int .i64 r.d) rfl
 have c9:=HG3.out.cx (j:=9) (v:=.int .u8 r.o) rfl
 rw [hk] at c0
 have HA:Hid (z1f (r.x L T M)=((r.tx != 0) && decide (r.x L T M=(Rv.x (rm 5 0 r.tx 0 false 0 0 0 0 0) [] [] [])))):=hid (by
  have e:r.x L T M=⟨5,r.sg,r.tx,r.st,r.cp,(r.ka,r.kb,r.kc),r.d,r.o,r.pg L T M⟩:=by unfold Rv.x;rw [hk]
  rw [e,gk4 _ _ _ _ _ _ _ _ _ (Or.inr (Or.inl rfl))]
  rfl)
 obtain⟨z,hz⟩:∃ z,decide (r.x L T M=(Rv.x (rm 5 0 r.tx 0 false 0 0 0 0 0) [] [] []))=z:=⟨_,rfl⟩
 rw [hz] at HA
 have HSM:=hid (fun w (h:Gz W w B Y r (rm 5 0 r.tx 0 false 0 0 0 0 0))=>z3b r (rm 5 0 r.tx 0 false 0 0 0 0 0) L T M [] [] [] w (HP.out.later h.below) (z1b _ _ _ _ _ _ _ _ _ _ _) HH.out ⟨Nat.zero_le _,Nat.zero_le _,Nat.zero_le _⟩)
 rw [hz] at HSM
 clear hz hk
 have HGX:=HG3
 clear HG3
 cases qtx:(r.tx != 0)
 case false =>
  go_wp2_with (first | ((with_reducible refine z0d HGX.out.x ?_ ?_ ?_);rfl;rfl) | ((with_reducible refine z0d HGX.out.y ?_ ?_ ?_);rfl;rfl) | ((with_reducible refine z0h HGX.out.x ?_ ?_ ?_);rfl;rfl) | ((with_reducible refine z0i HGX.out.x ?_ ?_ ?_);rfl;rfl))
  go_ret
  exact⟨by rw [HA.out,qtx];rfl,HGX.out.below⟩
 go_wp2_with (first | ((with_reducible refine z0d HGX.out.x ?_ ?_ ?_);rfl;rfl) | ((with_reducible refine z0d HGX.out.y ?_ ?_ ?_);rfl;rfl) | ((with_reducible refine z0h HGX.out.x ?_ ?_ ?_);rfl;rfl) | ((with_reducible refine z0i HGX.out.x ?_ ?_ ?_);rfl;rfl))
 refine (HSM.out w3 HGX.out).mono ?_
 rintro e w4 ⟨rfl,hcb⟩
 have HB9:=hid (HGX.out.below.trans (hcb.mono HGX.out.below.size))
 clear hcb
 clear c0 c1 c2 c3 c4 c8 c9
 go_wp2_with fail
 go_ret
 exact⟨by rw [HA.out,qtx];rfl,HB9.out⟩
theorem rrec_good6 (r:Rv) (L:List Ln) (T:List Tk) (M:List Ln) (W:World) (hP:RvM W r L T M) (hok:Rxok (r.x L T M)) (h1:r.ln≤1000∧r.tn≤1000∧r.wn≤1000) (hk:r.k=6):Calls Tryz.prog 47 #[.agg (rcs r)] W fun e w'=>e=.returned (.bool (z1f (r.x L T M)))∧Below W.heap.size W w':=by
 have HOK:=hid hok
 have HP:=hid hP
 have HH:=hid h1
 clear hok hP h1
 obtain⟨W1,hW1,hb1⟩:∃ W1,W.alloc (.cells (rcs r) 51)=W1∧Below W.heap.size W W1:=⟨_,rfl,(Below.refl _ _).alloc (Nat.le_refl _) _⟩
 obtain⟨B,hB⟩:∃ B,W.heap.size=B:=⟨_,rfl⟩
 have hrb:=RB.new W r
 rw [hW1,hB] at hrb
 obtain⟨Y,hY⟩:∃ Y,W1.heap.size=Y:=⟨_,rfl⟩
 have hBY:B<Y:=by have:=hrb.lt;omega
 obtain⟨w1,hw1,hx1,hb1a⟩:∃ w1,W1.alloc (.cells zr 51)=w1∧RB w1 Y rz∧Below W1.heap.size W1 w1:=⟨_,rfl,by rw [← hY];exact z0b W1 _,(Below.refl _ _).alloc (Nat.le_refl _) _⟩
 have hG1:Gz W w1 B Y r rz:=⟨hrb.later hb1a,hx1,hb1.trans (hb1a.mono hb1.size),by omega,hBY⟩
 obtain⟨w2,hw2,hG2⟩:∃ w2,w1.setRow Y (rcs (rm 6 0 0 0 false 0 0 0 0 0))=w2∧Gz W w2 B Y r (rm 6 0 0 0 false 0 0 0 0 0):=⟨_,rfl,hG1.set _⟩
 have HX1:=hid hrb
 have HW1:=hid hW1
 have HRE:=hid hB
 have HYE:=hid hY
 have HW1a:=hid hw1
 have HXZ:=hid hx1
 have HW2:=hid hw2
 have HG2:=hid hG2
 have c0:W1.cell? ⟨B,0,none⟩=some (.int .u8 r.k):=z0a hrb rfl
 rw [hk] at c0
 clear hW1 hB hY hBY hw1 hx1 hb1a hG1 hw2 hG2 hb1 hrb
 have HHK:=hid hk
 go_enter Tryz.func47,Tryz.ntmps47
 go_upto_region 1 with (fail)
 rw [HW1.out,HRE.out]
 go_upto_region 2 with ((try rw [HYE.out]);(try rw [HW1a.out]);(with_reducible refine z0e (rm 6 0 0 0 false 0 0 0 0 0) HXZ.out ?_ ?_ ?_);rfl;rfl;rw [HW2.out])
 clear c0 HX1 HW1 HRE HYE HW1a HXZ HW2
 have c0:=HG2.out.cx (j:=0) (v:=.int .u8 r.k) rfl
 have c1:=HG2.out.cx (j:=1) (v:=.int .u32 r.sg) rfl
 have c2:=HG2.out.cx (j:=2) (v:=.int .u32 r.tx) rfl
 have c3:=HG2.out.cx (j:=3) (v:=.int .u8 r.st) rfl
 have c4:=HG2.out.cx (j:=4) (v:=.bool r.cp) rfl
 have c8:=HG2.out.cx (j:=8) (v:=.int .i64 r.d) rfl
 have c9:=HG2.out.cx (j:=9) (v:=.int .u8 r.o) rfl
 rw [hk] at c0
 obtain⟨cy,cf⟩:=HG2.out.cy (j:=2) (v:=.int .u32 0) rfl
 go_upto_region 18 with (fail)
 clear cy cf
 have hq:=HG2.out.put 2 (.int .u32 r.tx) (rm 6 0 r.tx 0 false 0 0 0 0 0) rfl
 generalize w2.setCell ⟨Y,2,none⟩ (.int .u32 r.tx)=w3 at *
 have HG3:=hid hq
 clear hq HG2
 clear c0 c1 c2 c3 c4 c8 c9
 have c0:=HG3.out.cx (j:=0) (v:=.int .u8 r.k) rfl
 have c1:=HG3.out.cx (j:=1) (v:=.int .u32 r.sg) rfl
 have c2:=HG3.out.cx (j:=2) (v:=.int .u32 r.tx) rfl
 have c3:=HG3.out.cx (j:=3) (v:=.int .u8 r.st) rfl
 have c4:=HG3.out.cx (j:=4) (v:=.bool r.cp) rfl
 have c8:=HG3.out.cx (j:=8) (v:=.int .i64 r.d) rfl
 have c9:=HG3.out.cx (j:=9) (v:=.int .u8 r.o) rfl
 rw [hk] at c0
 obtain⟨w4,hgen,hq⟩:∃ w4,w3.setRow Y (rcs { (rm 6 0 r.tx 0 false 0 0 0 0 0) with ka:=r.ka,kb:=r.kb,kc:=r.kc })=w4∧Gz W w4 B Y r (rm 6 0 r.tx 0 false r.ka r.kb r.kc 0 0):=⟨_,rfl,HG3.out.set (rm 6 0 r.tx 0 false r.ka r.kb r.kc 0 0)⟩
 have HGEN:=hid hgen
 have HG4:=hid hq
 clear hgen hq
 go_upto_region 19 with (first | ((with_reducible refine z2i HG3.out.x ?_ ?_);rfl) | ((with_reducible refine z3n r.ka r.kb r.kc HG3.out.y ?_ ?_ ?_);rfl;rfl;rw [HGEN.out]))
 clear HGEN HG3
 clear c0 c1 c2 c3 c4 c8 c9
 have c0:=HG4.out.cx (j:=0) (v:=.int .u8 r.k) rfl
 have c1:=HG4.out.cx (j:=1) (v:=.int .u32 r.sg) rfl
 have c2:=HG4.out.cx (j:=2) (v:=.int .u32 r.tx) rfl
 have c3:=HG4.out.cx (j:=3) (v:=.int .u8 r.st) rfl
 have c4:=HG4.out.cx (j:=4) (v:=.bool r.cp) rfl
 have c8:=HG4.out.cx (j:=8) (v:=.int .i64 r.d) rfl
 have c9:=HG4.out.cx (j:=9) (v:=.int .u8 r.o) rfl
 rw [hk] at c0
 obtain⟨cy,cf⟩:=HG4.out.cy (j:=8) (v:=.int .i64 0) rfl
 go_upto_region 20 with (fail)
 clear cy cf
 have hq:=HG4.out.put 8 (.int .i64 r.d) (rm 6 0 r.tx 0 false r.ka r.kb r.kc r.d 0) rfl
 generalize w4.setCell ⟨Y,8,none⟩ (.int .i64 r.d)=w5 at *
 have HG5:=hid hq
 clear hq HG4
 clear c0 c1 c2 c3 c4 c8 c9
 have c0:=HG5.out.cx (j:=0) (v:=.int .u8 r.k) rfl
 have c1:=HG5.out.cx (j:=1) (v:=.int .u32 r.sg) rfl
 have c2:=HG5.out.cx (j:=2) (v:=.int .u32 r.tx) rfl
 have c3:=HG5.out.cx (j:=3) (v:=.int .u8 r.st) rfl
 have c4:=HG5.out.cx (j:=4) (v:=.bool r.cp) rfl
 have c8:=HG5.out.cx (j:=8) (v:=.int .i64 r.d) rfl
 have c9:=HG5.out.cx (j:=9) (v:=.int .u8 r.o) rfl
 rw [hk] at c0
 have HA:Hid (z1f (r.x L T M)=((r.tx != 0) && z4p 4 4 r.ka r.kb r.kc && (r.d != 0) && decide (-9223372036854775807≤r.d) && decide (r.x L T M=(Rv.x (rm 6 0 r.tx 0 false r.ka r.kb r.kc r.d 0) [] [] [])))):=hid (by
  have e:r.x L T M=⟨6,r.sg,r.tx,r.st,r.cp,(r.ka,r.kb,r.kc),r.d,r.o,r.pg L T M⟩:=by unfold Rv.x;rw [hk]
  rw [e,gk6 _ _ _ _ _ _ _ _ (show In64 r.d from HOK.out.d)]
  rfl)
 obtain⟨z,hz⟩:∃ z,decide (r.x L T M=(Rv.x (rm 6 0 r.tx 0 false r.ka r.kb r.kc r.d 0) [] [] []))=z:=⟨_,rfl⟩
 rw [hz] at HA
 have HSM:=hid (fun w (h:Gz W w B Y r (rm 6 0 r.tx 0 false r.ka r.kb r.kc r.d 0))=>z3b r (rm 6 0 r.tx 0 false r.ka r.kb r.kc r.d 0) L T M [] [] [] w (HP.out.later h.below) (z1b _ _ _ _ _ _ _ _ _ _ _) HH.out ⟨Nat.zero_le _,Nat.zero_le _,Nat.zero_le _⟩)
 rw [hz] at HSM
 clear hz hk
 have HGX:=HG5
 clear HG5
 cases qtx:(r.tx != 0)
 case false =>
  go_wp2_with (first | ((with_reducible refine z0d HGX.out.x ?_ ?_ ?_);rfl;rfl) | ((with_reducible refine z0d HGX.out.y ?_ ?_ ?_);rfl;rfl) | ((with_reducible refine z0h HGX.out.x ?_ ?_ ?_);rfl;rfl) | ((with_reducible refine z0i HGX.out.x ?_ ?_ ?_);rfl;rfl))
  go_ret
  exact⟨by rw [HA.out,qtx];rfl,HGX.out.below⟩
 go_wp2_with (first | ((with_reducible refine z0d HGX.out.x ?_ ?_ ?_);rfl;rfl) | ((with_reducible refine z0d HGX.out.y ?_ ?_ ?_);rfl;rfl) | ((with_reducible refine z0h HGX.out.x ?_ ?_ ?_);rfl;rfl) | ((with_reducible refine z0i HGX.out.x ?_ ?_ ?_);rfl;rfl))
 refine (refgood_any 4 4 r.ka r.kb r.kc HOK.out.key.2.1 HOK.out.key.2.2 w5).mono ?_
 rintro e w6 ⟨rfl,hgr⟩
 have hcb:=hgr.below
 clear hgr
 have HGX:=hid (HGX.out.later hcb)
 clear hcb
 clear c0 c1 c2 c3 c4 c8 c9
 have c0:=HGX.out.cx (j:=0) (v:=.int .u8 r.k) rfl
 have c1:=HGX.out.cx (j:=1) (v:=.int .u32 r.sg) rfl
 have c2:=HGX.out.cx (j:=2) (v:=.int .u32 r.tx) rfl
 have c3:=HGX.out.cx (j:=3) (v:=.int .u8 r.st) rfl
 have c4:=HGX.out.cx (j:=4) (v:=.bool r.cp) rfl
 have c8:=HGX.out.cx (j:=8) (v:=.int .i64 r.d) rfl
 have c9:=HGX.out.cx (j:=9) (v:=.int .u8 r.o) rfl
 rw [HHK.out] at c0
 cases qCK:z4p 4 4 r.ka r.kb r.kc
 case false =>
  go_wp2_with (first | ((with_reducible refine z0d HGX.out.x ?_ ?_ ?_);rfl;rfl) | ((with_reducible refine z0d HGX.out.y ?_ ?_ ?_);rfl;rfl) | ((with_reducible refine z0h HGX.out.x ?_ ?_ ?_);rfl;rfl) | ((with_reducible refine z0i HGX.out.x ?_ ?_ ?_);rfl;rfl))
  go_ret
  exact⟨by rw [HA.out,qtx,qCK];rfl,HGX.out.below⟩
 cases qdn:(r.d != 0)
 case false =>
  go_wp2_with (first | ((with_reducible refine z0d HGX.out.x ?_ ?_ ?_);rfl;rfl) | ((with_reducible refine z0d HGX.out.y ?_ ?_ ?_);rfl;rfl) | ((with_reducible refine z0h HGX.out.x ?_ ?_ ?_);rfl;rfl) | ((with_reducible refine z0i HGX.out.x ?_ ?_ ?_);rfl;rfl))
  go_ret
  exact⟨by rw [HA.out,qtx,qCK,qdn];rfl,HGX.out.below⟩
 cases qdg:decide (-9223372036854775807≤r.d)
 case false =>
  go_wp2_with (first | ((with_reducible refine z0d HGX.out.x ?_ ?_ ?_);rfl;rfl) | ((with_reducible refine z0d HGX.out.y ?_ ?_ ?_);rfl;rfl) | ((with_reducible refine z0h HGX.out.x ?_ ?_ ?_);rfl;rfl) | ((with_reducible refine z0i HGX.out.x ?_ ?_ ?_);rfl;rfl))
  go_ret
  exact⟨by rw [HA.out,qtx,qCK,qdn,qdg];rfl,HGX.out.below⟩
 go_wp2_with (first | ((with_reducible refine z0d HGX.out.x ?_ ?_ ?_);rfl;rfl) | ((with_reducible refine z0d HGX.out.y ?_ ?_ ?_);rfl;rfl) | ((with_reducible refine z0h HGX.out.x ?_ ?_ ?_);rfl;rfl) | ((with_reducible refine z0i HGX.out.x ?_ ?_ ?_);rfl;rfl))
 refine (HSM.out w6 HGX.out).mono ?_
 rintro e w7 ⟨rfl,hcb⟩
 have HB9:=hid (HGX.out.below.trans (hcb.mono HGX.out.below.size))
 clear hcb
 clear c0 c1 c2 c3 c4 c8 c9
 go_wp2_with fail
 go_ret
 exact⟨by rw [HA.out,qtx,qCK,qdn,qdg];rfl,HB9.out⟩
theorem rrec_good7 (r:Rv) (L:List Ln) (T:List Tk) (M:List Ln) (W:World) (hP:RvM W r L T M) (hok:Rxok (r.x L T M)) (h1:r.ln≤1000∧r.tn≤1000∧r.wn≤1000) (hk:r.k=7):Calls Tryz.prog 47 #[.agg (rcs r)] W fun e w'=>e=.returned (.bool (z1f (r.x L T M)))∧Below W.heap.size W w':=by
 have HOK:=hid hok
 have HP:=hid hP
 have HH:=hid h1
 clear hok hP h1
 obtain⟨W1,hW1,hb1⟩:∃ W1,W.alloc (.cells (rcs r) 51)=W1∧Below W.heap.size W W1:=⟨_,rfl,(Below.refl _ _).alloc (Nat.le_refl _) _⟩
 obtain⟨B,hB⟩:∃ B,W.heap.size=B:=⟨_,rfl⟩
 have hrb:=RB.new W r
 rw [hW1,hB] at hrb
 obtain⟨Y,hY⟩:∃ Y,W1.heap.size=Y:=⟨_,rfl⟩
 have hBY:B<Y:=by have:=hrb.lt;omega
 obtain⟨w1,hw1,hx1,hb1a⟩:∃ w1,W1.alloc (.cells zr 51)=w1∧RB w1 Y rz∧Below W1.heap.size W1 w1:=⟨_,rfl,by rw [← hY];exact z0b W1 _,(Below.refl _ _).alloc (Nat.le_refl _) _⟩
 have hG1:Gz W w1 B Y r rz:=⟨hrb.later hb1a,hx1,hb1.trans (hb1a.mono hb1.size),by omega,hBY⟩
 obtain⟨w2,hw2,hG2⟩:∃ w2,w1.setRow Y (rcs (rm 7 0 0 0 false 0 0 0 0 0))=w2∧Gz W w2 B Y r (rm 7 0 0 0 false 0 0 0 0 0):=⟨_,rfl,hG1.set _⟩
 have HX1:=hid hrb
 have HW1:=hid hW1
 have HRE:=hid hB
 have HYE:=hid hY
 have HW1a:=hid hw1
 have HXZ:=hid hx1
 have HW2:=hid hw2
 have HG2:=hid hG2
 have c0:W1.cell? ⟨B,0,none⟩=some (.int .u8 r.k):=z0a hrb rfl
 rw [hk] at c0
 clear hW1 hB hY hBY hw1 hx1 hb1a hG1 hw2 hG2 hb1 hrb
 have HHK:=hid hk
 go_enter Tryz.func47,Tryz.ntmps47
 go_upto_region 1 with (fail)
 rw [HW1.out,HRE.out]
 go_upto_region 2 with ((try rw [HYE.out]);(try rw [HW1a.out]);(with_reducible refine z0e (rm 7 0 0 0 false 0 0 0 0 0) HXZ.out ?_ ?_ ?_);rfl;rfl;rw [HW2.out])
 clear c0 HX1 HW1 HRE HYE HW1a HXZ HW2
 have c0:=HG2.out.cx (j:=0) (v:=.int .u8 r.k) rfl
 have c1:=HG2.out.cx (j:=1) (v:=.int .u32 r.sg) rfl
 have c2:=HG2.out.cx (j:=2) (v:=.int .u32 r.tx) rfl
 have c3:=HG2.out.cx (j:=3) (v:=.int .u8 r.st) rfl
 have c4:=HG2.out.cx (j:=4) (v:=.bool r.cp) rfl
 have c8:=HG2.out.cx (j:=8) (v:=.int .i64 r.d) rfl
 have c9:=HG2.out.cx (j:=9) (v:=.int .u8 r.o) rfl
 rw [hk] at c0
 obtain⟨cy,cf⟩:=HG2.out.cy (j:=2) (v:=.int .u32 0) rfl
 go_upto_region 25 with (fail)
 clear cy cf
 have hq:=HG2.out.put 2 (.int .u32 r.tx) (rm 7 0 r.tx 0 false 0 0 0 0 0) rfl
 generalize w2.setCell ⟨Y,2,none⟩ (.int .u32 r.tx)=w3 at *
 have HG3:=hid hq
 clear hq HG2
 clear c0 c1 c2 c3 c4 c8 c9
 have c0:=HG3.out.cx (j:=0) (v:=.int .u8 r.k) rfl
 have c1:=HG3.out.cx (j:=1) (v:=.int .u32 r.sg) rfl
 have c2:=HG3.out.cx (j:=2) (v:=.int .u32 r.tx) rfl
 have c3:=HG3.out.cx (j:=3) (v:=.int .u8 r.st) rfl
 have c4:=HG3.out.cx (j:=4) (v:=.bool r.cp) rfl
 have c8:=HG3.out.cx (j:=8) (v:=.int .i64 r.d) rfl
 have c9:=HG3.out.cx (j:=9) (v:=.int .u8 r.o) rfl
 rw [hk] at c0
 have HA:Hid (z1f (r.x L T M)=((r.tx != 0) && decide (r.x L T M=(Rv.x (rm 7 0 r.tx 0 false 0 0 0 0 0) [] [] [])))):=hid (by
  have e:r.x L T M=⟨7,r.sg,r.tx,r.st,r.cp,(r.ka,r.kb,r.kc),r.d,r.o,r.pg L T M⟩:=by unfold Rv.x;rw [hk]
  rw [e,gk4 _ _ _ _ _ _ _ _ _ (Or.inr (Or.inr rfl))]
  rfl)
 obtain⟨z,hz⟩:∃ z,decide (r.x L T M=(Rv.x (rm 7 0 r.tx 0 false 0 0 0 0 0) [] [] []))=z:=⟨_,rfl⟩
 rw [hz] at HA
 have HSM:=hid (fun w (h:Gz W w B Y r (rm 7 0 r.tx 0 false 0 0 0 0 0))=>z3b r (rm 7 0 r.tx 0 false 0 0 0 0 0) L T M [] [] [] w (HP.out.later h.below) (z1b _ _ _ _ _ _ _ _ _ _ _) HH.out ⟨Nat.zero_le _,Nat.zero_le _,Nat.zero_le _⟩)
 rw [hz] at HSM
 clear hz hk
 have HGX:=HG3
 clear HG3
 cases qtx:(r.tx != 0)
 case false =>
  go_wp2_with (first | ((with_reducible refine z0d HGX.out.x ?_ ?_ ?_);rfl;rfl) | ((with_reducible refine z0d HGX.out.y ?_ ?_ ?_);rfl;rfl) | ((with_reducible refine z0h HGX.out.x ?_ ?_ ?_);rfl;rfl) | ((with_reducible refine z0i HGX.out.x ?_ ?_ ?_);rfl;rfl))
  go_ret
  exact⟨by rw [HA.out,qtx];rfl,HGX.out.below⟩
 go_wp2_with (first | ((with_reducible refine z0d HGX.out.x ?_ ?_ ?_);rfl;rfl) | ((with_reducible refine z0d HGX.out.y ?_ ?_ ?_);rfl;rfl) | ((with_reducible refine z0h HGX.out.x ?_ ?_ ?_);rfl;rfl) | ((with_reducible refine z0i HGX.out.x ?_ ?_ ?_);rfl;rfl))
 refine (HSM.out w3 HGX.out).mono ?_
 rintro e w4 ⟨rfl,hcb⟩
 have HB9:=hid (HGX.out.below.trans (hcb.mono HGX.out.below.size))
 clear hcb
 clear c0 c1 c2 c3 c4 c8 c9
 go_wp2_with fail
 go_ret
 exact⟨by rw [HA.out,qtx];rfl,HB9.out⟩
theorem rrec_good8 (r:Rv) (L:List Ln) (T:List Tk) (M:List Ln) (W:World) (hP:RvM W r L T M) (hok:Rxok (r.x L T M)) (h1:r.ln≤1000∧r.tn≤1000∧r.wn≤1000) (hk:r.k=8):Calls Tryz.prog 47 #[.agg (rcs r)] W fun e w'=>e=.returned (.bool (z1f (r.x L T M)))∧Below W.heap.size W w':=by
 have HOK:=hid hok
 have HP:=hid hP
 have HH:=hid h1
 clear hok hP h1
 obtain⟨W1,hW1,hb1⟩:∃ W1,W.alloc (.cells (rcs r) 51)=W1∧Below W.heap.size W W1:=⟨_,rfl,(Below.refl _ _).alloc (Nat.le_refl _) _⟩
 obtain⟨B,hB⟩:∃ B,W.heap.size=B:=⟨_,rfl⟩
 have hrb:=RB.new W r
 rw [hW1,hB] at hrb
 obtain⟨Y,hY⟩:∃ Y,W1.heap.size=Y:=⟨_,rfl⟩
 have hBY:B<Y:=by have:=hrb.lt;omega
 obtain⟨w1,hw1,hx1,hb1a⟩:∃ w1,W1.alloc (.cells zr 51)=w1∧RB w1 Y rz∧Below W1.heap.size W1 w1:=⟨_,rfl,by rw [← hY];exact z0b W1 _,(Below.refl _ _).alloc (Nat.le_refl _) _⟩
 have hG1:Gz W w1 B Y r rz:=⟨hrb.later hb1a,hx1,hb1.trans (hb1a.mono hb1.size),by omega,hBY⟩
 obtain⟨w2,hw2,hG2⟩:∃ w2,w1.setRow Y (rcs (rm 8 0 0 0 false 0 0 0 0 0))=w2∧Gz W w2 B Y r (rm 8 0 0 0 false 0 0 0 0 0):=⟨_,rfl,hG1.set _⟩
 have HX1:=hid hrb
 have HW1:=hid hW1
 have HRE:=hid hB
 have HYE:=hid hY
 have HW1a:=hid hw1
 have HXZ:=hid hx1
 have HW2:=hid hw2
 have HG2:=hid hG2
 have c0:W1.cell? ⟨B,0,none⟩=some (.int .u8 r.k):=z0a hrb rfl
 rw [hk] at c0
 clear hW1 hB hY hBY hw1 hx1 hb1a hG1 hw2 hG2 hb1 hrb
 have HHK:=hid hk
 go_enter Tryz.func47,Tryz.ntmps47
 go_upto_region 1 with (fail)
 rw [HW1.out,HRE.out]
 go_upto_region 2 with ((try rw [HYE.out]);(try rw [HW1a.out]);(with_reducible refine z0e (rm 8 0 0 0 false 0 0 0 0 0) HXZ.out ?_ ?_ ?_);rfl;rfl;rw [HW2.out])
 clear c0 HX1 HW1 HRE HYE HW1a HXZ HW2
 have c0:=HG2.out.cx (j:=0) (v:=.int .u8 r.k) rfl
 have c1:=HG2.out.cx (j:=1) (v:=.int .u32 r.sg) rfl
 have c2:=HG2.out.cx (j:=2) (v:=.int .u32 r.tx) rfl
 have c3:=HG2.out.cx (j:=3) (v:=.int .u8 r.st) rfl
 have c4:=HG2.out.cx (j:=4) (v:=.bool r.cp) rfl
 have c8:=HG2.out.cx (j:=8) (v:=.int .i64 r.d) rfl
 have c9:=HG2.out.cx (j:=9) (v:=.int .u8 r.o) rfl
 rw [hk] at c0
 obtain⟨cy,cf⟩:=HG2.out.cy (j:=1) (v:=.int .u32 0) rfl
 go_upto_region 28 with (fail)
 clear cy cf
 have hq:=HG2.out.put 1 (.int .u32 r.sg) (rm 8 r.sg 0 0 false 0 0 0 0 0) rfl
 generalize w2.setCell ⟨Y,1,none⟩ (.int .u32 r.sg)=w3 at *
 have HG3:=hid hq
 clear hq HG2
 clear c0 c1 c2 c3 c4 c8 c9
 have c0:=HG3.out.cx (j:=0) (v:=.int .u8 r.k) rfl
 have c1:=HG3.out.cx (j:=1) (v:=.int .u32 r.sg) rfl
 have c2:=HG3.out.cx (j:=2) (v:=.int .u32 r.tx) rfl
 have c3:=HG3.out.cx (j:=3) (v:=.int .u8 r.st) rfl
 have c4:=HG3.out.cx (j:=4) (v:=.bool r.cp) rfl
 have c8:=HG3.out.cx (j:=8) (v:=.int .i64 r.d) rfl
 have c9:=HG3.out.cx (j:=9) (v:=.int .u8 r.o) rfl
 rw [hk] at c0
 have HA:Hid (z1f (r.x L T M)=((r.sg != 0) && decide (r.x L T M=(Rv.x (rm 8 r.sg 0 0 false 0 0 0 0 0) [] [] [])))):=hid (by
  have e:r.x L T M=⟨8,r.sg,r.tx,r.st,r.cp,(r.ka,r.kb,r.kc),r.d,r.o,r.pg L T M⟩:=by unfold Rv.x;rw [hk]
  rw [e,gk8 _ _ _ _ _ _ _ _]
  rfl)
 obtain⟨z,hz⟩:∃ z,decide (r.x L T M=(Rv.x (rm 8 r.sg 0 0 false 0 0 0 0 0) [] [] []))=z:=⟨_,rfl⟩
 rw [hz] at HA
 have HSM:=hid (fun w (h:Gz W w B Y r (rm 8 r.sg 0 0 false 0 0 0 0 0))=>z3b r (rm 8 r.sg 0 0 false 0 0 0 0 0) L T M [] [] [] w (HP.out.later h.below) (z1b _ _ _ _ _ _ _ _ _ _ _) HH.out ⟨Nat.zero_le _,Nat.zero_le _,Nat.zero_le _⟩)
 rw [hz] at HSM
 clear hz hk
 have HGX:=HG3
 clear HG3
 cases qsg:(r.sg != 0)
 case false =>
  go_wp2_with (first | ((with_reducible refine z0d HGX.out.x ?_ ?_ ?_);rfl;rfl) | ((with_reducible refine z0d HGX.out.y ?_ ?_ ?_);rfl;rfl) | ((with_reducible refine z0h HGX.out.x ?_ ?_ ?_);rfl;rfl) | ((with_reducible refine z0i HGX.out.x ?_ ?_ ?_);rfl;rfl))
  go_ret
  exact⟨by rw [HA.out,qsg];rfl,HGX.out.below⟩
 go_wp2_with (first | ((with_reducible refine z0d HGX.out.x ?_ ?_ ?_);rfl;rfl) | ((with_reducible refine z0d HGX.out.y ?_ ?_ ?_);rfl;rfl) | ((with_reducible refine z0h HGX.out.x ?_ ?_ ?_);rfl;rfl) | ((with_reducible refine z0i HGX.out.x ?_ ?_ ?_);rfl;rfl))
 refine (HSM.out w3 HGX.out).mono ?_
 rintro e w4 ⟨rfl,hcb⟩
 have HB9:=hid (HGX.out.below.trans (hcb.mono HGX.out.below.size))
 clear hcb
 clear c0 c1 c2 c3 c4 c8 c9
 go_wp2_with fail
 go_ret
 exact⟨by rw [HA.out,qsg];rfl,HB9.out⟩
theorem rrec_good9 (r:Rv) (L:List Ln) (T:List Tk) (M:List Ln) (W:World) (hP:RvM W r L T M) (hok:Rxok (r.x L T M)) (h1:r.ln≤1000∧r.tn≤1000∧r.wn≤1000) (hk:r.k=9):Calls Tryz.prog 47 #[.agg (rcs r)] W fun e w'=>e=.returned (.bool (z1f (r.x L T M)))∧Below W.heap.size W w':=by
 have HOK:=hid hok
 have HP:=hid hP
 have HH:=hid h1
 clear hok hP h1
 obtain⟨W1,hW1,hb1⟩:∃ W1,W.alloc (.cells (rcs r) 51)=W1∧Below W.heap.size W W1:=⟨_,rfl,(Below.refl _ _).alloc (Nat.le_refl _) _⟩
 obtain⟨B,hB⟩:∃ B,W.heap.size=B:=⟨_,rfl⟩
 have hrb:=RB.new W r
 rw [hW1,hB] at hrb
 obtain⟨Y,hY⟩:∃ Y,W1.heap.size=Y:=⟨_,rfl⟩
 have hBY:B<Y:=by have:=hrb.lt;omega
 obtain⟨w1,hw1,hx1,hb1a⟩:∃ w1,W1.alloc (.cells zr 51)=w1∧RB w1 Y rz∧Below W1.heap.size W1 w1:=⟨_,rfl,by rw [← hY];exact z0b W1 _,(Below.refl _ _).alloc (Nat.le_refl _) _⟩
 have hG1:Gz W w1 B Y r rz:=⟨hrb.later hb1a,hx1,hb1.trans (hb1a.mono hb1.size),by omega,hBY⟩
 obtain⟨w2,hw2,hG2⟩:∃ w2,w1.setRow Y (rcs (rm 9 0 0 0 false 0 0 0 0 0))=w2∧Gz W w2 B Y r (rm 9 0 0 0 false 0 0 0 0 0):=⟨_,rfl,hG1.set _⟩
 have HX1:=hid hrb
 have HW1:=hid hW1
 have HRE:=hid hB
 have HYE:=hid hY
 have HW1a:=hid hw1
 have HXZ:=hid hx1
 have HW2:=hid hw2
 have HG2:=hid hG2
 have c0:W1.cell? ⟨B,0,none⟩=some (.int .u8 r.k):=z0a hrb rfl
 rw [hk] at c0
 clear hW1 hB hY hBY hw1 hx1 hb1a hG1 hw2 hG2 hb1 hrb
 have HHK:=hid hk
 go_enter Tryz.func47,Tryz.ntmps47
 go_upto_region 1 with (fail)
 rw [HW1.out,HRE.out]
 go_upto_region 2 with ((try rw [HYE.out]);(try rw [HW1a.out]);(with_reducible refine z0e (rm 9 0 0 0 false 0 0 0 0 0) HXZ.out ?_ ?_ ?_);rfl;rfl;rw [HW2.out])
 clear c0 HX1 HW1 HRE HYE HW1a HXZ HW2
 have c0:=HG2.out.cx (j:=0) (v:=.int .u8 r.k) rfl
 have c1:=HG2.out.cx (j:=1) (v:=.int .u32 r.sg) rfl
 have c2:=HG2.out.cx (j:=2) (v:=.int .u32 r.tx) rfl
 have c3:=HG2.out.cx (j:=3) (v:=.int .u8 r.st) rfl
 have c4:=HG2.out.cx (j:=4) (v:=.bool r.cp) rfl
 have c8:=HG2.out.cx (j:=8) (v:=.int .i64 r.d) rfl
 have c9:=HG2.out.cx (j:=9) (v:=.int .u8 r.o) rfl
 rw [hk] at c0
 obtain⟨cy,cf⟩:=HG2.out.cy (j:=1) (v:=.int .u32 0) rfl
 go_upto_region 31 with (fail)
 clear cy cf
 have hq:=HG2.out.put 1 (.int .u32 r.sg) (rm 9 r.sg 0 0 false 0 0 0 0 0) rfl
 generalize w2.setCell ⟨Y,1,none⟩ (.int .u32 r.sg)=w3 at *
 have HG3:=hid hq
 clear hq HG2
 clear c0 c1 c2 c3 c4 c8 c9
 have c0:=HG3.out.cx (j:=0) (v:=.int .u8 r.k) rfl
 have c1:=HG3.out.cx (j:=1) (v:=.int .u32 r.sg) rfl
 have c2:=HG3.out.cx (j:=2) (v:=.int .u32 r.tx) rfl
 have c3:=HG3.out.cx (j:=3) (v:=.int .u8 r.st) rfl
 have c4:=HG3.out.cx (j:=4) (v:=.bool r.cp) rfl
 have c8:=HG3.out.cx (j:=8) (v:=.int .i64 r.d) rfl
 have c9:=HG3.out.cx (j:=9) (v:=.int .u8 r.o) rfl
 rw [hk] at c0
 obtain⟨cy,cf⟩:=HG3.out.cy (j:=9) (v:=.int .u8 0) rfl
 go_upto_region 32 with (fail)
 clear cy cf
 have hq:=HG3.out.put 9 (.int .u8 r.o) (rm 9 r.sg 0 0 false 0 0 0 0 r.o) rfl
 generalize w3.setCell ⟨Y,9,none⟩ (.int .u8 r.o)=w4 at *
 have HG4:=hid hq
 clear hq HG3
 clear c0 c1 c2 c3 c4 c8 c9
 have c0:=HG4.out.cx (j:=0) (v:=.int .u8 r.k) rfl
 have c1:=HG4.out.cx (j:=1) (v:=.int .u32 r.sg) rfl
 have c2:=HG4.out.cx (j:=2) (v:=.int .u32 r.tx) rfl
 have c3:=HG4.out.cx (j:=3) (v:=.int .u8 r.st) rfl
 have c4:=HG4.out.cx (j:=4) (v:=.bool r.cp) rfl
 have c8:=HG4.out.cx (j:=8) (v:=.int .i64 r.d) rfl
 have c9:=HG4.out.cx (j:=9) (v:=.int .u8 r.o) rfl
 rw [hk] at c0
 have HA:Hid (z1f (r.x L T M)=((r.sg != 0) && ((r.o==1) || (r.o==2)) && decide (r.x L T M=(Rv.x (rm 9 r.sg 0 0 false 0 0 0 0 r.o) [] [] [])))):=hid (by
  have e:r.x L T M=⟨9,r.sg,r.tx,r.st,r.cp,(r.ka,r.kb,r.kc),r.d,r.o,r.pg L T M⟩:=by unfold Rv.x;rw [hk]
  rw [e,gk9 _ _ _ _ _ _ _ _]
  rfl)
 obtain⟨z,hz⟩:∃ z,decide (r.x L T M=(Rv.x (rm 9 r.sg 0 0 false 0 0 0 0 r.o) [] [] []))=z:=⟨_,rfl⟩
 rw [hz] at HA
 have HSM:=hid (fun w (h:Gz W w B Y r (rm 9 r.sg 0 0 false 0 0 0 0 r.o))=>z3b r (rm 9 r.sg 0 0 false 0 0 0 0 r.o) L T M [] [] [] w (HP.out.later h.below) (z1b _ _ _ _ _ _ _ _ _ _ _) HH.out ⟨Nat.zero_le _,Nat.zero_le _,Nat.zero_le _⟩)
 rw [hz] at HSM
 clear hz hk
 have HGX:=HG4
 clear HG4
 cases qsg:(r.sg != 0)
 case false =>
  go_wp2_with (first | ((with_reducible refine z0d HGX.out.x ?_ ?_ ?_);rfl;rfl) | ((with_reducible refine z0d HGX.out.y ?_ ?_ ?_);rfl;rfl) | ((with_reducible refine z0h HGX.out.x ?_ ?_ ?_);rfl;rfl) | ((with_reducible refine z0i HGX.out.x ?_ ?_ ?_);rfl;rfl))
  go_ret
  exact⟨by rw [HA.out,qsg];rfl,HGX.out.below⟩
 cases qo1:(r.o==1)
 case false =>
  cases qo2:(r.o==2)
  case false =>
   go_wp2_with (first | ((with_reducible refine z0d HGX.out.x ?_ ?_ ?_);rfl;rfl) | ((with_reducible refine z0d HGX.out.y ?_ ?_ ?_);rfl;rfl) | ((with_reducible refine z0h HGX.out.x ?_ ?_ ?_);rfl;rfl) | ((with_reducible refine z0i HGX.out.x ?_ ?_ ?_);rfl;rfl))
   go_ret
   exact⟨by rw [HA.out,qsg,qo1,qo2];rfl,HGX.out.below⟩
  go_wp2_with (first | ((with_reducible refine z0d HGX.out.x ?_ ?_ ?_);rfl;rfl) | ((with_reducible refine z0d HGX.out.y ?_ ?_ ?_);rfl;rfl) | ((with_reducible refine z0h HGX.out.x ?_ ?_ ?_);rfl;rfl) | ((with_reducible refine z0i HGX.out.x ?_ ?_ ?_);rfl;rfl))
  refine (HSM.out w4 HGX.out).mono ?_
  rintro e w5 ⟨rfl,hcb⟩
  have HB9:=hid (HGX.out.below.trans (hcb.mono HGX.out.below.size))
  clear hcb
  clear c0 c1 c2 c3 c4 c8 c9
  go_wp2_with fail
  go_ret
  exact⟨by rw [HA.out,qsg,qo1,qo2];rfl,HB9.out⟩
 go_wp2_with (first | ((with_reducible refine z0d HGX.out.x ?_ ?_ ?_);rfl;rfl) | ((with_reducible refine z0d HGX.out.y ?_ ?_ ?_);rfl;rfl) | ((with_reducible refine z0h HGX.out.x ?_ ?_ ?_);rfl;rfl) | ((with_reducible refine z0i HGX.out.x ?_ ?_ ?_);rfl;rfl))
 refine (HSM.out w4 HGX.out).mono ?_
 rintro e w5 ⟨rfl,hcb⟩
 have HB9:=hid (HGX.out.below.trans (hcb.mono HGX.out.below.size))
 clear hcb
 clear c0 c1 c2 c3 c4 c8 c9
 go_wp2_with fail
 go_ret
 exact⟨by rw [HA.out,qsg,qo1];rfl,HB9.out⟩
theorem rrec_goodx (r:Rv) (L:List Ln) (T:List Tk) (M:List Ln) (W:World) (hP:RvM W r L T M) (hok:Rxok (r.x L T M)) (h1:r.ln≤1000∧r.tn≤1000∧r.wn≤1000) (hk:kOk r.k=false):Calls Tryz.prog 47 #[.agg (rcs r)] W fun e w'=>e=.returned (.bool (z1f (r.x L T M)))∧Below W.heap.size W w':=by
 have HOK:=hid hok
 have HA:Hid (z1f (r.x L T M)=false):=hid (by unfold z1f;rw [show kOk (r.x L T M).k=false from hk];rfl)
 obtain⟨n1,n2,n3,n4,n5,n6,n7,n8,n9⟩:=not_kOk hk
 have e1:(r.k==1)=false:=by simpa using n1
 have e2:(r.k==2)=false:=by simpa using n2
 have e3:(r.k==3)=false:=by simpa using n3
 have e4:(r.k==4)=false:=by simpa using n4
 have e5:(r.k==5)=false:=by simpa using n5
 have e6:(r.k==6)=false:=by simpa using n6
 have e7:(r.k==7)=false:=by simpa using n7
 have e8:(r.k==8)=false:=by simpa using n8
 have e9:(r.k==9)=false:=by simpa using n9
 clear hok hP h1 n1 n2 n3 n4 n5 n6 n7 n8 n9
 obtain⟨W1,hW1,hb1⟩:∃ W1,W.alloc (.cells (rcs r) 51)=W1∧Below W.heap.size W W1:=⟨_,rfl,(Below.refl _ _).alloc (Nat.le_refl _) _⟩
 obtain⟨B,hB⟩:∃ B,W.heap.size=B:=⟨_,rfl⟩
 have hrb:=RB.new W r
 rw [hW1,hB] at hrb
 obtain⟨Y,hY⟩:∃ Y,W1.heap.size=Y:=⟨_,rfl⟩
 have hBY:B<Y:=by have:=hrb.lt;omega
 obtain⟨w1,hw1,hx1,hb1a⟩:∃ w1,W1.alloc (.cells zr 51)=w1∧RB w1 Y rz∧Below W1.heap.size W1 w1:=⟨_,rfl,by rw [← hY];exact z0b W1 _,(Below.refl _ _).alloc (Nat.le_refl _) _⟩
 have hG1:Gz W w1 B Y r rz:=⟨hrb.later hb1a,hx1,hb1.trans (hb1a.mono hb1.size),by omega,hBY⟩
 obtain⟨w2,hw2,hG2⟩:∃ w2,w1.setRow Y (rcs (rm r.k 0 0 0 false 0 0 0 0 0))=w2∧Gz W w2 B Y r (rm r.k 0 0 0 false 0 0 0 0 0):=⟨_,rfl,hG1.set _⟩
 have HX1:=hid hrb
 have HW1:=hid hW1
 have HRE:=hid hB
 have HYE:=hid hY
 have HW1a:=hid hw1
 have HXZ:=hid hx1
 have HW2:=hid hw2
 have HG2:=hid hG2
 have c0:W1.cell? ⟨B,0,none⟩=some (.int .u8 r.k):=z0a hrb rfl
 clear hW1 hB hY hBY hw1 hx1 hb1a hG1 hw2 hG2 hb1 hrb
 have HHK:=hid hk
 go_enter Tryz.func47,Tryz.ntmps47
 go_upto_region 1 with (fail)
 rw [HW1.out,HRE.out]
 go_upto_region 2 with ((try rw [HYE.out]);(try rw [HW1a.out]);(with_reducible refine z0e (rm r.k 0 0 0 false 0 0 0 0 0) HXZ.out ?_ ?_ ?_);rfl;rfl;rw [HW2.out])
 clear c0 HX1 HW1 HRE HYE HW1a HXZ HW2
 have c0:=HG2.out.cx (j:=0) (v:=.int .u8 r.k) rfl
 clear hk
 go_wp2_with fail
 go_ret
 exact⟨by rw [HA.out];rfl,HG2.out.below⟩
theorem z3p (r:Rv) (L:List Ln) (T:List Tk) (M:List Ln) (W:World) (hP:RvM W r L T M) (hok:Rxok (r.x L T M)) (h1:r.ln≤1000∧r.tn≤1000∧r.wn≤1000):Calls Tryz.prog 47 #[.agg (rcs r)] W fun e w'=>e=.returned (.bool (z1f (r.x L T M)))∧Below W.heap.size W w':=by
 cases hk:kOk r.k with
 | true =>
  rcases z5c hk with h | h | h | h | h | h | h | h | h
  · exact rrec_good1 r L T M W hP hok h1 h
  · exact rrec_good2 r L T M W hP hok h1 h
  · exact rrec_good3 r L T M W hP hok h1 h
  · exact rrec_good4 r L T M W hP hok h1 h
  · exact rrec_good5 r L T M W hP hok h1 h
  · exact rrec_good6 r L T M W hP hok h1 h
  · exact rrec_good7 r L T M W hP hok h1 h
  · exact rrec_good8 r L T M W hP hok h1 h
  · exact rrec_good9 r L T M W hP hok h1 h
 | false=>exact rrec_goodx r L T M W hP hok h1 hk
structure Qr (W w:World) (R:Nat) (p0:Option Addr) (S:St) (r:Rv):Prop where
 z:Rr w (R+1) p0 S
 x:RB w (R+2) r
 res:RB w R rz
 below:Below W.heap.size W w
 base:W.heap.size≤R
theorem Qr.low {W w w':World} {R:Nat} {p0:Option Addr} {S S':St} {r:Rv} (h:Qr W w R p0 S r) (hz:Rr w' (R+1) p0 S') (hc:Chg (fun k=>k=R+1) w w'):Qr W w' R p0 S' r:=by
 have hb:=h.base
 exact⟨hz,h.x.chg hc (by omega),h.res.chg hc (by omega),Chg.below h.below h.below.size hc fun k hk=>by omega,h.base⟩
theorem Qr.later {W w w':World} {R:Nat} {p0:Option Addr} {S:St} {r:Rv} (h:Qr W w R p0 S r) (hb:Below w.heap.size w w'):Qr W w' R p0 S r :=
 ⟨h.z.later hb,h.x.later hb,h.res.later hb,h.below.trans (hb.mono h.below.size),h.base⟩
theorem Qr.put {W w:World} {R:Nat} {p0:Option Addr} {S:St} {r:Rv} (h:Qr W w R p0 S r) (j:Nat) (v:Value) (r':Rv) (he:(rcs r).setIfInBounds j v=rcs r'):Qr W (w.setCell ⟨R+2,j,none⟩ v) R p0 S r':=by
 have hb:=h.base
 have hc:Chg (fun k=>k=R+2) w (w.setCell ⟨R+2,j,none⟩ v):=(Chg.refl _ _).setCell ⟨R+2,j,none⟩ _ fun _=>rfl
 exact⟨h.z.chg hc fun k hk=>by omega,h.x.put j v r' he,h.res.chg hc (by omega),Chg.below h.below h.below.size hc fun k hk=>by omega,h.base⟩
theorem Qr.set {W w:World} {R:Nat} {p0:Option Addr} {S:St} {r:Rv} (h:Qr W w R p0 S r) (r':Rv):Qr W (w.setRow (R+2) (rcs r')) R p0 S r':=by
 have hb:=h.base
 have hc:Chg (fun k=>k=R+2) w (w.setRow (R+2) (rcs r')):=⟨rfl,rfl,rfl,by simp [World.setRow],fun k _ hn=>setRow_other _ _ _ _ hn⟩
 exact⟨h.z.chg hc fun k hk=>by omega,h.x.set r',h.res.chg hc (by omega),Chg.below h.below h.below.size hc fun k hk=>by omega,h.base⟩
theorem Qr.cx {W w:World} {R:Nat} {p0:Option Addr} {S:St} {r:Rv} (h:Qr W w R p0 S r) {j:Nat} {v:Value} (hj:(rcs r)[j]?=some v):w.cell? ⟨R+2,j,none⟩=some v∧w.frozen? ⟨R+2,j,none⟩=false:=⟨z0a h.x hj,z0t j h.x⟩
theorem z3q {r:Rv} {L:List Ln} {T:List Tk} {M:List Ln} {w:World} (hm:RvM w r L T M) (hs:(r.x L T M).pg.lines.length≤3∧(r.x L T M).pg.takes.length≤12∧(r.x L T M).pg.owes.length≤3):r.ln≤1000∧r.tn≤1000∧r.wn≤1000:=by
 have h1:=hm.l.len
 have h2:=hm.t.len
 have h3:=hm.o.len
 obtain⟨q1,q2,q3⟩:=hs
 have g1:L.length≤3:=q1
 have g2:T.length≤12:=q2
 have g3:M.length≤3:=q3
 omega
theorem z3c (p:Option Addr) (n c:Nat) (Bs:List Nat) (W:World) (hS:Sl W p n c Bs) (hc:c≤maxLen):∃ R w00 w0,W.heap.size=R∧(W.alloc (.cells zr 51)).alloc (.cells #[.slice p n c,.int .i64 0] 162)=w00∧w00.heap.size=R+2∧RB (w00.alloc (.cells zr 51)) (R+2) rz∧(w00.alloc (.cells zr 51)).setRow (R+2) (rcs rz)=w0∧Qr W w0 R p (0,Bs) rz:=by
 have b1:Below W.heap.size W (W.alloc (.cells zr 51)):=(Below.refl _ _).alloc (Nat.le_refl _) _
 have b2:Below W.heap.size W ((W.alloc (.cells zr 51)).alloc (.cells #[.slice p n c,.int .i64 0] 162)):=b1.alloc (by simp) _
 have b3:Below W.heap.size W (((W.alloc (.cells zr 51)).alloc (.cells #[.slice p n c,.int .i64 0] 162)).alloc (.cells zr 51)):=b2.alloc (by simp;omega) _
 have k1:=z0b W (.cells zr 51)
 have k2:=z0b (W.alloc (.cells zr 51)) (.cells #[.slice p n c,.int .i64 0] 162)
 have k3:=z0b ((W.alloc (.cells zr 51)).alloc (.cells #[.slice p n c,.int .i64 0] 162)) (.cells zr 51)
 simp only [World.size_alloc] at k2 k3
 have hq:Qr W (((W.alloc (.cells zr 51)).alloc (.cells #[.slice p n c,.int .i64 0] 162)).alloc (.cells zr 51)) W.heap.size p (0,Bs) rz:=by
  refine⟨⟨⟨p,n,c,(Below.heap_alloc _ _ _ (by simp)).trans k2,fun _=>⟨hS.later b3,From.refl _,hc⟩⟩,fun _ hne a ha=>?_⟩,k3,(Below.heap_alloc _ _ _ (by simp;omega)).trans ((Below.heap_alloc _ _ _ (by simp)).trans k1),b3,Nat.le_refl _⟩
  have hl:=hS.len
  have h0:0<n:=by
   rcases Nat.eq_zero_or_pos n with h | h
   · exact absurd (List.eq_nil_of_length_eq_zero (by rw [h] at hl;exact hl)) hne
   · exact h
  obtain⟨b,off,hp,hlt,_⟩:=hS.blk h0
  rw [hp] at ha
  cases ha
  show b<W.heap.size+1
  omega
 exact⟨_,_,_,rfl,rfl,by simp,k3,rfl,hq.set rz⟩
theorem q0s {Bs:List Nat} (hk:kOk (((numR ((0,Bs):St) 1).2:Nat):Int)=true):(numR ((0,Bs):St) 1).1.1=0:=by
 by_cases h:(numR ((0,Bs):St) 1).1.1=0
 · exact h
 · rw [q0n (by omega) h] at hk
   exact absurd hk (by decide)
theorem z4q {Bs:List Nat} {R0:St × Nat} {kk:Int} {D:Rdd} (h0:numR (0,Bs) 1=R0) (hk:((R0.2:Nat):Int)=kk) (ho:kOk kk=true) (hd:rdX kk R0.1=D):decX Bs=if rdE D≠0 then (rdE D,noX) else if z1f D.rx=true then (0,D.rx) else (8,noX):=by
 subst h0 hk
 unfold decX
 dsimp only
 rw [if_pos ho,hd]
theorem decX_no {Bs:List Nat} {R0:St × Nat} {kk:Int} (h0:numR (0,Bs) 1=R0) (hk:((R0.2:Nat):Int)=kk) (ho:kOk kk=false):decX Bs=((if R0.1.1≠0 then R0.1.1 else 8),noX):=by
 subst h0 hk
 unfold decX
 dsimp only
 rw [if_neg (by rw [ho];decide)]
def errD (D:Rdd):Int:=if D.er=0 then D.st.1 else D.er
theorem z2r {D:Rdd} (h:errD D≠0):rdE D=errD D:=by
 unfold errD at h ⊢
 unfold rdE endR
 split
 · rename_i he
   rw [if_pos he] at h
   rw [if_neg (fun hh=>h hh.1)]
 · rfl
theorem z4n {D:Rdd} (h:errD D=0) (hl:0<D.st.2.length):rdE D=8:=by
 unfold errD at h
 unfold rdE endR
 split
 · rename_i he
   rw [if_pos he] at h
   rw [if_pos ⟨h,hl⟩]
 · rename_i he
   rw [if_neg he] at h
   exact absurd h he
theorem z5w {D:Rdd} (h:errD D=0) (hl:¬ 0<D.st.2.length):rdE D=0:=by
 unfold errD at h
 unfold rdE endR
 split
 · rename_i he
   rw [if_pos he] at h
   rw [if_neg (fun hh=>hl hh.2)]
   exact h
 · rename_i he
   rw [if_neg he] at h
   exact absurd h he
theorem rrec_dec1 (p:Option Addr) (n c:Nat) (Bs:List Nat) (W:World) (hw:Words W) (hS:Sl W p n c Bs) (hcm:c≤maxLen) (hk:(((numR ((0,Bs):St) 1).2:Nat):Int)=1):Calls Tryz.prog 50 #[.slice p n c] W (z0s W (decX Bs)):=by
 obtain⟨R,w00,w0,hR,hw00,hs00,hx00,hw0,hQ0⟩:=z3c p n c Bs W hS hcm
 have HW00:=hid hw00
 have HS00:=hid hs00
 have HX00:=hid hx00
 have HW0:=hid hw0
 have HQ0:=hid hQ0
 have HRE:=hid hR
 have HWD:=hid hw
 have HBY:Hid (∀ y∈Bs,y<256):=hid hS.lt
 clear hw00 hs00 hx00 hw0 hQ0 hR hw hS hcm
 obtain⟨R0,hR0⟩:∃ Q,numR ((0,Bs):St) 1=Q:=⟨_,rfl⟩
 have hn:=z0n HQ0.out.z 1 (by omega)
 have hf:=z1p HQ0.out.z
 have hz0:=q0s (Bs:=Bs) (by rw [hk];rfl)
 rw [hR0] at hz0
 have HZ0:=hid hz0
 clear hz0
 rw [hR0] at hn hf hk
 have HR0:=hid hR0
 have hx0:IntKind.u8.wrap ((R0.2:Nat):Int)=(R0.2:Nat):=z1g hf
 rw [hk] at hn hx0
 have HKK:=hid hk
 clear hf hR0 hk
 go_enter Tryz.func50,Tryz.ntmps50
 go_upto_region 2 with (fail)
 rw [HW00.out,HRE.out]
 go_upto_region 3 with ((try rw [HS00.out]);(with_reducible refine z0e rz HX00.out ?_ ?_ ?_);rfl;rfl;rw [HW0.out])
 go_wp2_with fail
 refine hn.mono ?_
 rintro e y0 ⟨rfl,hz,hc⟩
 have HQb:=hid (HQ0.out.low hz hc)
 clear hz hc hn
 obtain⟨cy,cf⟩:=HQb.out.cx (j:=0) (v:=.int .u8 0) rfl
 go_upto_region 4 with (fail)
 clear cy cf hx0
 have hq:=HQb.out.put 0 (.int .u8 1) (rm 1 0 0 0 false 0 0 0 0 0) rfl
 generalize y0.setCell ⟨R+2,0,none⟩ (.int .u8 1)=w1 at *
 have HQ1:=hid hq
 clear hq HQb HQ0 HW00 HS00 HX00 HW0
 have x1:=HQ1.out.z.err
 rw [HZ0.out] at x1
 have c0:=(HQ1.out.cx (j:=0) (v:=.int .u8 1) rfl).1
 go_wp2_with fail
 clear x1
 have hn:=z0n HQ1.out.z 4 (by omega)
 obtain⟨Qsg,hQsg⟩:∃ Q,numR R0.1 4=Q:=⟨_,rfl⟩
 have hf:=z4i HQ1.out.z
 rw [hQsg] at hn hf
 have hxsg:IntKind.u32.wrap ((Qsg.2:Nat):Int)=(Qsg.2:Nat):=z1w hf
 clear hf
 have HQsg:=hid hQsg
 clear hQsg
 refine hn.mono ?_
 rintro e y2 ⟨rfl,hz,hc⟩
 have HQb:=hid (HQ1.out.low hz hc)
 clear hz hc hn HQ1 c0
 obtain⟨cy,cf⟩:=HQb.out.cx (j:=1) (v:=.int .u32 0) rfl
 go_upto_region 8 with (fail)
 clear cy cf hxsg
 have hq:=HQb.out.put 1 (.int .u32 ((Qsg.2:Nat):Int)) (rm 1 ((Qsg.2:Nat):Int) 0 0 false 0 0 0 0 0) rfl
 generalize y2.setCell ⟨R+2,1,none⟩ (.int .u32 ((Qsg.2:Nat):Int))=w2 at *
 have HQ2:=hid hq
 clear hq HQb
 have c0:=(HQ2.out.cx (j:=0) (v:=.int .u8 1) rfl).1
 go_wp2_with fail
 have hn:=rprog_any HQ2.out.z (fun w' hc=>HWD.out.later (HQ2.out.below.trans (Chg.below (W:=w2) (B:=W.heap.size) (Below.refl _ _) HQ2.out.below.size hc fun k hk=>by have:=HQ2.out.base;omega)))
 have hxl:=z0g HQ2.out.x
 refine hn.mono ?_
 rintro e y3 ⟨pv,L,T,M,rfl,hpg,hpm,hfr,hz,hc⟩
 have HQb:=hid (HQ2.out.low hz hc)
 have HFR:Hid ((∀ a,pv.lp=some a→R+2<a.block)∧(∀ a,pv.tp=some a→R+2<a.block)∧(∀ a,pv.wp=some a→R+2<a.block)):=hid ⟨fun a h=>by have:=hfr.1 a h;omega,fun a h=>by have:=hfr.2.1 a h;omega,fun a h=>by have:=hfr.2.2 a h;omega⟩
 have HPM:=hid hpm
 have HPG:=hid hpg
 clear hn hz hc hpm hpg hfr hxl HQ2 c0
 obtain⟨rr,hrr⟩:∃ rr,Rv.withP (rm 1 ((Qsg.2:Nat):Int) 0 0 false 0 0 0 0 0) pv=rr:=⟨_,rfl⟩
 have HRR:=hid hrr
 obtain⟨w3,hwx,hq⟩:∃ w3,y3.setRow (R+2) (rcs rr)=w3∧Qr W w3 R p (z4c Qsg.1).1 rr:=⟨_,rfl,HQb.out.set _⟩
 have hm3:RvM w3 rr L T M:=by
  have hp8:=z6e HPM.out (show Chg (fun k=>k=R+2) y3 w3 from by rw [← hwx];exact⟨rfl,rfl,rfl,by simp [World.setRow],fun k _ hn=>setRow_other _ _ _ _ hn⟩) (fun a h e=>by have:=HFR.out.1 a h;omega) (fun a h e=>by have:=HFR.out.2.1 a h;omega) (fun a h e=>by have:=HFR.out.2.2 a h;omega)
  rw [← hrr]
  exact hp8
 have HFX:Hid ((∀ a,rr.lp=some a→R+2<a.block)∧(∀ a,rr.tp=some a→R+2<a.block)∧(∀ a,rr.wp=some a→R+2<a.block)):=hid (by rw [← hrr];exact HFR.out)
 have HM3:=hid hm3
 have HWX:=hid hwx
 have HQ3:=hid hq
 clear hwx hq hrr hm3
 go_upto_region 22 with ((with_reducible refine z4t pv HQb.out.x ?_ ?_ ?_);rfl;rfl;rw [HRR.out,HWX.out])
 clear HQb HWX HPM HFR
 obtain⟨DD,hDD⟩:∃ D:Rdd,D=rd1 R0.1:=⟨_,rfl⟩
 have HRX:Hid (rdX 1 R0.1=DD):=hid (by rw [hDD];rfl)
 have HED:Hid (errD DD=(z4c Qsg.1).1.1):=hid (by
  rw [hDD]
  unfold rd1 z4c errD
  rw [HQsg.out]
  dsimp only
  by_cases hb:(z1d Qsg.1 512).1.1=0
  · rw [if_pos hb,if_pos hb]
    dsimp only
    by_cases he:(decP (z1d Qsg.1 512).2).1=0
    · rw [if_pos he,he,hb]
    · rw [if_neg he]
  · rw [if_neg hb,if_neg hb]
    rfl)
 have HSX:Hid ((z4c Qsg.1).1.1=0→DD.st.2=(z4c Qsg.1).1.2∧rr.x L T M=DD.rx):=hid (by
  intro h0
  have hpg:=HPG.out
  rw [hDD]
  unfold rd1
  unfold z4c at h0 hpg ⊢
  rw [HQsg.out]
  dsimp only
  by_cases hb:(z1d Qsg.1 512).1.1=0
  · rw [if_pos hb] at h0 hpg ⊢
    rw [if_pos hb]
    refine⟨rfl,?_⟩
    rw [← HRR.out]
    dsimp only
    rw [← hpg]
    rfl
  · rw [if_neg hb] at h0
    exact absurd h0 hb)
 clear hDD
 have HKO:Hid (kOk 1=true):=hid rfl
 have HDX:=hid (z4q HR0.out HKK.out HKO.out HRX.out)
 have x1:=HQ3.out.z.err
 by_cases he9:(z4c Qsg.1).1.1=0
 case neg =>
  have d9:((z4c Qsg.1).1.1 != 0)=true:=by simpa using he9
  have hq9:Hid ((z4c Qsg.1).1.1≠0):=hid he9
  obtain⟨pr,nr,cr,hbx,hpr⟩:=HQ3.out.z.box
  have HQd:=hid (HQ3.out.later (show Below w3.heap.size w3 w3.drew from (Below.refl _ _).drew))
  have HBX:Hid (w3.drew.heap[R+1]?=some (.cells #[.slice pr nr cr,.int .i64 (z4c Qsg.1).1.1] 162 (0,0))):=hid hbx
  clear he9 hbx hpr
  have HRF:Hid (RB (w3.drew.setRow R (rcs rz)) R rz):=hid (HQd.out.res.set _)
  have HG:Hid (z0s W (decX Bs) (.returned (.tuple #[.agg zr,.int .i64 (z4c Qsg.1).1.1])) (w3.drew.setRow R zr)):=hid (by
   have hp:decX Bs=((z4c Qsg.1).1.1,noX):=by
    rw [HDX.out,if_pos (by rw [z2r (by rw [HED.out];exact hq9.out),HED.out];exact hq9.out),z2r (by rw [HED.out];exact hq9.out),HED.out]
   rw [hp]
   exact⟨rz,[],[],[],rfl,rfl,rz_m _,below_setRow HQd.out.below HQd.out.base zr,z3i _⟩)
  go_wp2_with fail
  refine wp_region_held_drew (S:=fun w'=>Hid (w'.heap[R+1]?=some (.cells #[.slice pr nr cr,.int .i64 (z4c Qsg.1).1.1] 162 (0,0)))) (by kernel_rfl) HBX (fun hHeld=>?_)
  refine wpAnyH_take (i:=0) (oi:=⟨some 113,_,_,_,_,_⟩) (v:=.agg zr) rfl (by kernel_rfl) (by kernel_rfl) (by kernel_rfl) (fun _ _ _ h=>h) (Or.inl ⟨by rfl,fun w' hw'=>?_⟩) (by assumption) ?_
  · clear hHeld
    go_simp
  simp only [Act.put,sIB,sCZ,sCS]
  refine wpAnyH_take (i:=1) (oi:=⟨some 114,_,_,_,_,_⟩) (v:=.pointer (some ⟨R+1,0,none⟩)) rfl (by kernel_rfl) (by kernel_rfl) (by kernel_rfl) (fun _ _ _ h=>h) (Or.inl ⟨by rfl,fun w' hw'=>?_⟩) (by assumption) ?_
  · clear hHeld
    go_simp
  simp only [Act.put,sIB,sCZ,sCS]
  refine wpAnyH_take (i:=2) (oi:=⟨some 115,_,_,_,_,_⟩) (v:=.pointer (some ⟨R+1,0,none⟩)) rfl (by kernel_rfl) (by kernel_rfl) (by kernel_rfl) (fun _ _ _ h=>h) (Or.inl ⟨by rfl,fun w' hw'=>?_⟩) (by assumption) ?_
  · clear hHeld
    go_simp
  simp only [Act.put,sIB,sCZ,sCS]
  refine wpAnyH_take (i:=3) (oi:=⟨some 116,_,_,_,_,_⟩) (v:=.pointer (some ⟨R+1,1,none⟩)) rfl (by kernel_rfl) (by kernel_rfl) (by kernel_rfl) (fun _ _ _ h=>h) (Or.inl ⟨by rfl,fun w' hw'=>?_⟩) (by assumption) ?_
  · clear hHeld
    go_simp
  simp only [Act.put,sIB,sCZ,sCS]
  refine wpAnyH_take (i:=4) (oi:=⟨some 117,_,_,_,_,_⟩) (v:=.int .i64 (z4c Qsg.1).1.1) rfl (by kernel_rfl) (by kernel_rfl) (by kernel_rfl) (fun _ _ _ h=>h) (Or.inl ⟨by rfl,fun w' hw'=>?_⟩) (by assumption) ?_
  · have g1:=z0a (j:=1) (v:=.int .i64 (z4c Qsg.1).1.1) hw'.out rfl
    clear hHeld
    go_simp
  simp only [Act.put,sIB,sCZ,sCS]
  generalize w3.drew=Wd at *
  refine wpAnyH_ready (rs:=[5]) (by kernel_rfl) (by simp) (AllReadyH.cons rfl (fun K hK=>?_) AllReadyH.nil)
  rw [if_pos (by rfl)]
  refine wp_store_row 51 _ _ rfl R zr rfl rfl 51 _ HQd.out.res (by kernel_rfl) rfl (z2c rz) ?_
  have HB2:Hid ((Wd.setRow R zr).heap[R+1]?=some (.cells #[.slice pr nr cr,.int .i64 (z4c Qsg.1).1.1] 162 (0,0))):=hid ((setRow_other _ _ _ _ (by omega)).trans HBX.out)
  refine hK.out _ _ HB2 (fun hHeld2=>?_)
  clear hK K hHeld
  have hHeld:=hHeld2
  clear hHeld2
  (try simp only [Act.put,sIB,sCZ,sCS])
  refine wpAnyH_take (i:=6) (oi:=⟨some 3,_,_,_,_,_⟩) (v:=.int .i64 (z4c Qsg.1).1.1) rfl (by kernel_rfl) (by kernel_rfl) (by kernel_rfl) (fun _ _ _ h=>h) (Or.inl ⟨by rfl,fun w' hw'=>?_⟩) (by assumption) ?_
  · clear hHeld
    go_simp
  simp only [Act.put,sIB,sCZ,sCS]
  refine wpAnyH_done (by kernel_rfl) ?_ _
  clear hHeld
  (try simp only [Exit.inBlock,Exit.then])
  go_wp2_with fail
  refine bodyPost_ret (v:=.tuple #[.agg zr,.int .i64 (z4c Qsg.1).1.1]) ?_ rfl HG.out
  exact z0m rfl _ _ R rz _ rfl rfl HRF.out
 have HST:Hid (DD.st.2=(z4c Qsg.1).1.2):=hid (HSX.out he9).1
 have HXX:Hid (rr.x L T M=DD.rx):=hid (HSX.out he9).2
 have d9:((z4c Qsg.1).1.1 != 0)=false:=by simp [he9]
 obtain⟨pr,nr,cr,hbx,hpr⟩:=HQ3.out.z.box
 have hln:=(hpr he9).1.len
 rw [he9] at hbx
 have HLN:=hid hln
 have HZ9:Hid (errD DD=0):=hid (HED.out.trans he9)
 have b0:w3.cell? ⟨R+1,0,none⟩=some (.slice pr nr cr):=z0a hbx rfl
 have b1:w3.cell? ⟨R+1,1,none⟩=some (.int .i64 0):=z0a hbx rfl
 clear hbx hpr hln x1
 rw [he9] at d9
 clear he9
 by_cases hnr:0<nr
 case pos =>
  have hd:decide ((0:Int)<(nr:Int))=true:=decide_eq_true (by omega)
  have hdn:decide (0<nr)=true:=decide_eq_true hnr
  have HNR:=hid hnr
  clear hnr
  have HRF:Hid (RB (w3.setRow R (rcs rz)) R rz):=hid (HQ3.out.res.set _)
  have HG:Hid (z0s W (decX Bs) (.returned (.tuple #[.agg zr,.int .i64 8])) (w3.setRow R zr)):=hid (by
   have hp:decX Bs=(8,noX):=by
    have h8:=z4n HZ9.out (by rw [HST.out,HLN.out];exact HNR.out)
    rw [HDX.out,if_pos (by rw [h8];decide),h8]
   rw [hp]
   exact⟨rz,[],[],[],rfl,rfl,rz_m _,below_setRow HQ3.out.below HQ3.out.base zr,z3i _⟩)
  go_wp2_with ((with_reducible refine z0e rz HQ3.out.res ?_ ?_ ?_);rfl;rfl)
  (try simp only [Exit.inBlock,Exit.then])
  refine bodyPost_ret (v:=.tuple #[.agg zr,.int .i64 8]) ?_ rfl HG.out
  exact z0m rfl _ _ R rz _ rfl rfl HRF.out
 have hd:decide ((0:Int)<(nr:Int))=false:=decide_eq_false (by omega)
 have hdn:decide (0<nr)=false:=decide_eq_false hnr
 have HNR:=hid hnr
 clear hnr
 have h0:rdE DD=0:=z5w HZ9.out (by rw [HST.out,HLN.out];exact HNR.out)
 have HDY:Hid (decX Bs=if z1f DD.rx=true then (0,DD.rx) else (8,noX)):=hid (by rw [HDX.out,if_neg (fun h=>h h0)])
 have HMM:=hid (HM3.out)
 have hokk:=z6d (k:=1) HKO.out (S:=R0.1) (by rw [← HR0.out];exact z0k (S:=(0,Bs)) HBY.out 1)
 rw [HRX.out,← HXX.out] at hokk
 obtain⟨hok,hs1,hs2,hs3⟩:=hokk
 have hgd:=z3p rr L T M w3 HMM.out hok (z3q HMM.out ⟨hs1,hs2,hs3⟩)
 clear h0 hok hs1 hs2 hs3
 go_wp2_with (first | ((with_reducible refine z0d HQ3.out.x ?_ ?_ ?_);rfl;rfl))
 refine hgd.mono ?_
 rintro e w90 ⟨rfl,hb90⟩
 have HQ90:=hid (HQ3.out.later hb90)
 have HM90:=hid (HMM.out.later hb90)
 clear hb90 hgd b0 b1
 cases hg:z1f (rr.x L T M)
 case false =>
  have HRF:Hid (RB (w90.setRow R (rcs rz)) R rz):=hid (HQ90.out.res.set _)
  have HG:Hid (z0s W (decX Bs) (.returned (.tuple #[.agg zr,.int .i64 8])) (w90.setRow R zr)):=hid (by
   have hp:decX Bs=(8,noX):=by
    rw [HDY.out,← HXX.out,if_neg (by rw [hg];decide)]
   rw [hp]
   exact⟨rz,[],[],[],rfl,rfl,rz_m _,below_setRow HQ90.out.below HQ90.out.base zr,z3i _⟩)
  go_wp2_with ((with_reducible refine z0e rz HQ90.out.res ?_ ?_ ?_);rfl;rfl)
  (try simp only [Exit.inBlock,Exit.then])
  refine bodyPost_ret (v:=.tuple #[.agg zr,.int .i64 8]) ?_ rfl HG.out
  exact z0m rfl _ _ R rz _ rfl rfl HRF.out
 have HRF:Hid (RB (w90.setRow R (rcs rr)) R rr):=hid (HQ90.out.res.set _)
 have HG:Hid (z0s W (decX Bs) (.returned (.tuple #[.agg (rcs rr),.int .i64 0])) (w90.setRow R (rcs rr))):=hid (by
  have hp:decX Bs=(0,rr.x L T M):=by rw [HDY.out,← HXX.out,if_pos hg]
  rw [hp]
  exact⟨rr,L,T,M,rfl,rfl,z6e HM90.out (S:=fun k=>k=R) ⟨rfl,rfl,rfl,by simp [World.setRow],fun k _ hn=>setRow_other _ _ _ _ hn⟩ (fun a h e=>by have:=HFX.out.1 a h;omega) (fun a h e=>by have:=HFX.out.2.1 a h;omega) (fun a h e=>by have:=HFX.out.2.2 a h;omega),below_setRow HQ90.out.below HQ90.out.base (rcs rr),(fun a h=>by have:=HFX.out.1 a h;have:=HRE.out;omega),(fun a h=>by have:=HFX.out.2.1 a h;have:=HRE.out;omega),fun a h=>by have:=HFX.out.2.2 a h;have:=HRE.out;omega⟩)
 clear hg
 go_wp2_with (first | ((with_reducible refine z0q HQ90.out.x ?_ ?_);rfl) | ((with_reducible refine z0e rr HQ90.out.res ?_ ?_ ?_);rfl;rfl))
 (try simp only [Exit.inBlock,Exit.then])
 refine bodyPost_ret (v:=.tuple #[.agg (rcs rr),.int .i64 0]) ?_ rfl HG.out
 exact z0m rfl _ _ R rr _ rfl rfl HRF.out
theorem rrec_dec2 (p:Option Addr) (n c:Nat) (Bs:List Nat) (W:World) (hw:Words W) (hS:Sl W p n c Bs) (hcm:c≤maxLen) (hk:(((numR ((0,Bs):St) 1).2:Nat):Int)=2):Calls Tryz.prog 50 #[.slice p n c] W (z0s W (decX Bs)):=by
 obtain⟨R,w00,w0,hR,hw00,hs00,hx00,hw0,hQ0⟩:=z3c p n c Bs W hS hcm
 have HW00:=hid hw00
 have HS00:=hid hs00
 have HX00:=hid hx00
 have HW0:=hid hw0
 have HQ0:=hid hQ0
 have HRE:=hid hR
 have HWD:=hid hw
 have HBY:Hid (∀ y∈Bs,y<256):=hid hS.lt
 clear hw00 hs00 hx00 hw0 hQ0 hR hw hS hcm
 obtain⟨R0,hR0⟩:∃ Q,numR ((0,Bs):St) 1=Q:=⟨_,rfl⟩
 have hn:=z0n HQ0.out.z 1 (by omega)
 have hf:=z1p HQ0.out.z
 have hz0:=q0s (Bs:=Bs) (by rw [hk];rfl)
 rw [hR0] at hz0
 have HZ0:=hid hz0
 clear hz0
 rw [hR0] at hn hf hk
 have HR0:=hid hR0
 have hx0:IntKind.u8.wrap ((R0.2:Nat):Int)=(R0.2:Nat):=z1g hf
 rw [hk] at hn hx0
 have HKK:=hid hk
 clear hf hR0 hk
 go_enter Tryz.func50,Tryz.ntmps50
 go_upto_region 2 with (fail)
 rw [HW00.out,HRE.out]
 go_upto_region 3 with ((try rw [HS00.out]);(with_reducible refine z0e rz HX00.out ?_ ?_ ?_);rfl;rfl;rw [HW0.out])
 go_wp2_with fail
 refine hn.mono ?_
 rintro e y0 ⟨rfl,hz,hc⟩
 have HQb:=hid (HQ0.out.low hz hc)
 clear hz hc hn
 obtain⟨cy,cf⟩:=HQb.out.cx (j:=0) (v:=.int .u8 0) rfl
 go_upto_region 4 with (fail)
 clear cy cf hx0
 have hq:=HQb.out.put 0 (.int .u8 2) (rm 2 0 0 0 false 0 0 0 0 0) rfl
 generalize y0.setCell ⟨R+2,0,none⟩ (.int .u8 2)=w1 at *
 have HQ1:=hid hq
 clear hq HQb HQ0 HW00 HS00 HX00 HW0
 have x1:=HQ1.out.z.err
 rw [HZ0.out] at x1
 have c0:=(HQ1.out.cx (j:=0) (v:=.int .u8 2) rfl).1
 go_wp2_with fail
 clear x1
 have hn:=z0n HQ1.out.z 4 (by omega)
 obtain⟨Qsg,hQsg⟩:∃ Q,numR R0.1 4=Q:=⟨_,rfl⟩
 have hf:=z4i HQ1.out.z
 rw [hQsg] at hn hf
 have hxsg:IntKind.u32.wrap ((Qsg.2:Nat):Int)=(Qsg.2:Nat):=z1w hf
 clear hf
 have HQsg:=hid hQsg
 clear hQsg
 refine hn.mono ?_
 rintro e y2 ⟨rfl,hz,hc⟩
 have HQb:=hid (HQ1.out.low hz hc)
 clear hz hc hn HQ1 c0
 obtain⟨cy,cf⟩:=HQb.out.cx (j:=1) (v:=.int .u32 0) rfl
 go_upto_region 8 with (fail)
 clear cy cf hxsg
 have hq:=HQb.out.put 1 (.int .u32 ((Qsg.2:Nat):Int)) (rm 2 ((Qsg.2:Nat):Int) 0 0 false 0 0 0 0 0) rfl
 generalize y2.setCell ⟨R+2,1,none⟩ (.int .u32 ((Qsg.2:Nat):Int))=w2 at *
 have HQ2:=hid hq
 clear hq HQb
 have c0:=(HQ2.out.cx (j:=0) (v:=.int .u8 2) rfl).1
 go_wp2_with fail
 have hn:=z0n HQ2.out.z 4 (by omega)
 obtain⟨Qtx,hQtx⟩:∃ Q,numR Qsg.1 4=Q:=⟨_,rfl⟩
 have hf:=z4i HQ2.out.z
 rw [hQtx] at hn hf
 have hxtx:IntKind.u32.wrap ((Qtx.2:Nat):Int)=(Qtx.2:Nat):=z1w hf
 clear hf
 have HQtx:=hid hQtx
 clear hQtx
 refine hn.mono ?_
 rintro e y3 ⟨rfl,hz,hc⟩
 have HQb:=hid (HQ2.out.low hz hc)
 clear hz hc hn HQ2 c0
 obtain⟨cy,cf⟩:=HQb.out.cx (j:=2) (v:=.int .u32 0) rfl
 go_upto_region 10 with (fail)
 clear cy cf hxtx
 have hq:=HQb.out.put 2 (.int .u32 ((Qtx.2:Nat):Int)) (rm 2 ((Qsg.2:Nat):Int) ((Qtx.2:Nat):Int) 0 false 0 0 0 0 0) rfl
 generalize y3.setCell ⟨R+2,2,none⟩ (.int .u32 ((Qtx.2:Nat):Int))=w3 at *
 have HQ3:=hid hq
 clear hq HQb
 have c0:=(HQ3.out.cx (j:=0) (v:=.int .u8 2) rfl).1
 go_wp2_with fail
 have hn:=z0n HQ3.out.z 1 (by omega)
 obtain⟨Qst,hQst⟩:∃ Q,numR Qtx.1 1=Q:=⟨_,rfl⟩
 have hf:=z1p HQ3.out.z
 rw [hQst] at hn hf
 have hxst:IntKind.u8.wrap ((Qst.2:Nat):Int)=(Qst.2:Nat):=z1g hf
 clear hf
 have HQst:=hid hQst
 clear hQst
 refine hn.mono ?_
 rintro e y4 ⟨rfl,hz,hc⟩
 have HQb:=hid (HQ3.out.low hz hc)
 clear hz hc hn HQ3 c0
 obtain⟨cy,cf⟩:=HQb.out.cx (j:=3) (v:=.int .u8 0) rfl
 go_upto_region 12 with (fail)
 clear cy cf hxst
 have hq:=HQb.out.put 3 (.int .u8 ((Qst.2:Nat):Int)) (rm 2 ((Qsg.2:Nat):Int) ((Qtx.2:Nat):Int) ((Qst.2:Nat):Int) false 0 0 0 0 0) rfl
 generalize y4.setCell ⟨R+2,3,none⟩ (.int .u8 ((Qst.2:Nat):Int))=w4 at *
 have HQ4:=hid hq
 clear hq HQb
 have c0:=(HQ4.out.cx (j:=0) (v:=.int .u8 2) rfl).1
 go_wp2_with fail
 have hn:=rtruth_any HQ4.out.z
 obtain⟨Qcp,hQcp⟩:∃ Q,z2v Qst.1=Q:=⟨_,rfl⟩
 rw [hQcp] at hn
 have HQcp:=hid hQcp
 clear hQcp
 refine hn.mono ?_
 rintro e y5 ⟨rfl,hz,hc⟩
 have HQb:=hid (HQ4.out.low hz hc)
 clear hz hc hn HQ4 c0
 obtain⟨cy,cf⟩:=HQb.out.cx (j:=4) (v:=.bool false) rfl
 go_upto_region 13 with (fail)
 clear cy cf
 have hq:=HQb.out.put 4 (.bool Qcp.2) (rm 2 ((Qsg.2:Nat):Int) ((Qtx.2:Nat):Int) ((Qst.2:Nat):Int) Qcp.2 0 0 0 0 0) rfl
 generalize y5.setCell ⟨R+2,4,none⟩ (.bool Qcp.2)=w5 at *
 have HQ5:=hid hq
 clear hq HQb
 have c0:=(HQ5.out.cx (j:=0) (v:=.int .u8 2) rfl).1
 obtain⟨DD,hDD⟩:∃ D:Rdd,D=⟨Qcp.1,{ noX with k:=2,sg:=((Qsg.2:Nat):Int),tx:=((Qtx.2:Nat):Int),st:=((Qst.2:Nat):Int),cp:=Qcp.2,key:=(0,0,0),d:=0,o:=0 },0⟩:=⟨_,rfl⟩
 have HRX:Hid (rdX 2 R0.1=DD):=hid (by rw [hDD];simp [rdX,rd2,keyR,HQsg.out,HQtx.out,HQst.out,HQcp.out,noX])
 have HED:Hid (errD DD=Qcp.1.1):=hid (by rw [hDD];rfl)
 have HST:Hid (DD.st.2=Qcp.1.2):=hid (by rw [hDD])
 have HXX:Hid ((rm 2 ((Qsg.2:Nat):Int) ((Qtx.2:Nat):Int) ((Qst.2:Nat):Int) Qcp.2 0 0 0 0 0).x [] [] []=DD.rx):=hid (by rw [hDD];rfl)
 clear hDD
 have HKO:Hid (kOk 2=true):=hid rfl
 have HDX:=hid (z4q HR0.out HKK.out HKO.out HRX.out)
 have x1:=HQ5.out.z.err
 by_cases he9:Qcp.1.1=0
 case neg =>
  have d9:(Qcp.1.1 != 0)=true:=by simpa using he9
  have hq9:Hid (Qcp.1.1≠0):=hid he9
  obtain⟨pr,nr,cr,hbx,hpr⟩:=HQ5.out.z.box
  have HQd:=hid (HQ5.out.later (show Below w5.heap.size w5 w5.drew from (Below.refl _ _).drew))
  have HBX:Hid (w5.drew.heap[R+1]?=some (.cells #[.slice pr nr cr,.int .i64 Qcp.1.1] 162 (0,0))):=hid hbx
  clear he9 hbx hpr
  have HRF:Hid (RB (w5.drew.setRow R (rcs rz)) R rz):=hid (HQd.out.res.set _)
  have HG:Hid (z0s W (decX Bs) (.returned (.tuple #[.agg zr,.int .i64 Qcp.1.1])) (w5.drew.setRow R zr)):=hid (by
   have hp:decX Bs=(Qcp.1.1,noX):=by
    rw [HDX.out,if_pos (by rw [z2r (by rw [HED.out];exact hq9.out),HED.out];exact hq9.out),z2r (by rw [HED.out];exact hq9.out),HED.out]
   rw [hp]
   exact⟨rz,[],[],[],rfl,rfl,rz_m _,below_setRow HQd.out.below HQd.out.base zr,z3i _⟩)
  go_wp2_with fail
  refine wp_region_held_drew (S:=fun w'=>Hid (w'.heap[R+1]?=some (.cells #[.slice pr nr cr,.int .i64 Qcp.1.1] 162 (0,0)))) (by kernel_rfl) HBX (fun hHeld=>?_)
  refine wpAnyH_take (i:=0) (oi:=⟨some 113,_,_,_,_,_⟩) (v:=.agg zr) rfl (by kernel_rfl) (by kernel_rfl) (by kernel_rfl) (fun _ _ _ h=>h) (Or.inl ⟨by rfl,fun w' hw'=>?_⟩) (by assumption) ?_
  · clear hHeld
    go_simp
  simp only [Act.put,sIB,sCZ,sCS]
  refine wpAnyH_take (i:=1) (oi:=⟨some 114,_,_,_,_,_⟩) (v:=.pointer (some ⟨R+1,0,none⟩)) rfl (by kernel_rfl) (by kernel_rfl) (by kernel_rfl) (fun _ _ _ h=>h) (Or.inl ⟨by rfl,fun w' hw'=>?_⟩) (by assumption) ?_
  · clear hHeld
    go_simp
  simp only [Act.put,sIB,sCZ,sCS]
  refine wpAnyH_take (i:=2) (oi:=⟨some 115,_,_,_,_,_⟩) (v:=.pointer (some ⟨R+1,0,none⟩)) rfl (by kernel_rfl) (by kernel_rfl) (by kernel_rfl) (fun _ _ _ h=>h) (Or.inl ⟨by rfl,fun w' hw'=>?_⟩) (by assumption) ?_
  · clear hHeld
    go_simp
  simp only [Act.put,sIB,sCZ,sCS]
  refine wpAnyH_take (i:=3) (oi:=⟨some 116,_,_,_,_,_⟩) (v:=.pointer (some ⟨R+1,1,none⟩)) rfl (by kernel_rfl) (by kernel_rfl) (by kernel_rfl) (fun _ _ _ h=>h) (Or.inl ⟨by rfl,fun w' hw'=>?_⟩) (by assumption) ?_
  · clear hHeld
    go_simp
  simp only [Act.put,sIB,sCZ,sCS]
  refine wpAnyH_take (i:=4) (oi:=⟨some 117,_,_,_,_,_⟩) (v:=.int .i64 Qcp.1.1) rfl (by kernel_rfl) (by kernel_rfl) (by kernel_rfl) (fun _ _ _ h=>h) (Or.inl ⟨by rfl,fun w' hw'=>?_⟩) (by assumption) ?_
  · have g1:=z0a (j:=1) (v:=.int .i64 Qcp.1.1) hw'.out rfl
    clear hHeld
    go_simp
  simp only [Act.put,sIB,sCZ,sCS]
  generalize w5.drew=Wd at *
  refine wpAnyH_ready (rs:=[5]) (by kernel_rfl) (by simp) (AllReadyH.cons rfl (fun K hK=>?_) AllReadyH.nil)
  rw [if_pos (by rfl)]
  refine wp_store_row 51 _ _ rfl R zr rfl rfl 51 _ HQd.out.res (by kernel_rfl) rfl (z2c rz) ?_
  have HB2:Hid ((Wd.setRow R zr).heap[R+1]?=some (.cells #[.slice pr nr cr,.int .i64 Qcp.1.1] 162 (0,0))):=hid ((setRow_other _ _ _ _ (by omega)).trans HBX.out)
  refine hK.out _ _ HB2 (fun hHeld2=>?_)
  clear hK K hHeld
  have hHeld:=hHeld2
  clear hHeld2
  (try simp only [Act.put,sIB,sCZ,sCS])
  refine wpAnyH_take (i:=6) (oi:=⟨some 3,_,_,_,_,_⟩) (v:=.int .i64 Qcp.1.1) rfl (by kernel_rfl) (by kernel_rfl) (by kernel_rfl) (fun _ _ _ h=>h) (Or.inl ⟨by rfl,fun w' hw'=>?_⟩) (by assumption) ?_
  · clear hHeld
    go_simp
  simp only [Act.put,sIB,sCZ,sCS]
  refine wpAnyH_done (by kernel_rfl) ?_ _
  clear hHeld
  (try simp only [Exit.inBlock,Exit.then])
  go_wp2_with fail
  refine bodyPost_ret (v:=.tuple #[.agg zr,.int .i64 Qcp.1.1]) ?_ rfl HG.out
  exact z0m rfl _ _ R rz _ rfl rfl HRF.out
 have d9:(Qcp.1.1 != 0)=false:=by simp [he9]
 obtain⟨pr,nr,cr,hbx,hpr⟩:=HQ5.out.z.box
 have hln:=(hpr he9).1.len
 rw [he9] at hbx
 have HLN:=hid hln
 have HZ9:Hid (errD DD=0):=hid (HED.out.trans he9)
 have b0:w5.cell? ⟨R+1,0,none⟩=some (.slice pr nr cr):=z0a hbx rfl
 have b1:w5.cell? ⟨R+1,1,none⟩=some (.int .i64 0):=z0a hbx rfl
 clear hbx hpr hln x1
 rw [he9] at d9
 clear he9
 by_cases hnr:0<nr
 case pos =>
  have hd:decide ((0:Int)<(nr:Int))=true:=decide_eq_true (by omega)
  have hdn:decide (0<nr)=true:=decide_eq_true hnr
  have HNR:=hid hnr
  clear hnr
  have HRF:Hid (RB (w5.setRow R (rcs rz)) R rz):=hid (HQ5.out.res.set _)
  have HG:Hid (z0s W (decX Bs) (.returned (.tuple #[.agg zr,.int .i64 8])) (w5.setRow R zr)):=hid (by
   have hp:decX Bs=(8,noX):=by
    have h8:=z4n HZ9.out (by rw [HST.out,HLN.out];exact HNR.out)
    rw [HDX.out,if_pos (by rw [h8];decide),h8]
   rw [hp]
   exact⟨rz,[],[],[],rfl,rfl,rz_m _,below_setRow HQ5.out.below HQ5.out.base zr,z3i _⟩)
  go_wp2_with ((with_reducible refine z0e rz HQ5.out.res ?_ ?_ ?_);rfl;rfl)
  (try simp only [Exit.inBlock,Exit.then])
  refine bodyPost_ret (v:=.tuple #[.agg zr,.int .i64 8]) ?_ rfl HG.out
  exact z0m rfl _ _ R rz _ rfl rfl HRF.out
 have hd:decide ((0:Int)<(nr:Int))=false:=decide_eq_false (by omega)
 have hdn:decide (0<nr)=false:=decide_eq_false hnr
 have HNR:=hid hnr
 clear hnr
 have h0:rdE DD=0:=z5w HZ9.out (by rw [HST.out,HLN.out];exact HNR.out)
 have HDY:Hid (decX Bs=if z1f DD.rx=true then (0,DD.rx) else (8,noX)):=hid (by rw [HDX.out,if_neg (fun h=>h h0)])
 have HMM:=hid ((z1b 2 ((Qsg.2:Nat):Int) ((Qtx.2:Nat):Int) ((Qst.2:Nat):Int) Qcp.2 0 0 0 0 0 w5))
 have hokk:=z6d (k:=2) HKO.out (S:=R0.1) (by rw [← HR0.out];exact z0k (S:=(0,Bs)) HBY.out 1)
 rw [HRX.out,← HXX.out] at hokk
 obtain⟨hok,hs1,hs2,hs3⟩:=hokk
 have hgd:=z3p (rm 2 ((Qsg.2:Nat):Int) ((Qtx.2:Nat):Int) ((Qst.2:Nat):Int) Qcp.2 0 0 0 0 0) [] [] [] w5 HMM.out hok (z3q HMM.out ⟨hs1,hs2,hs3⟩)
 clear h0 hok hs1 hs2 hs3
 go_wp2_with (first | ((with_reducible refine z0d HQ5.out.x ?_ ?_ ?_);rfl;rfl))
 refine hgd.mono ?_
 rintro e w90 ⟨rfl,hb90⟩
 have HQ90:=hid (HQ5.out.later hb90)
 have HM90:=hid (HMM.out.later hb90)
 clear hb90 hgd b0 b1
 cases hg:z1f ((rm 2 ((Qsg.2:Nat):Int) ((Qtx.2:Nat):Int) ((Qst.2:Nat):Int) Qcp.2 0 0 0 0 0).x [] [] [])
 case false =>
  have HRF:Hid (RB (w90.setRow R (rcs rz)) R rz):=hid (HQ90.out.res.set _)
  have HG:Hid (z0s W (decX Bs) (.returned (.tuple #[.agg zr,.int .i64 8])) (w90.setRow R zr)):=hid (by
   have hp:decX Bs=(8,noX):=by
    rw [HDY.out,← HXX.out,if_neg (by rw [hg];decide)]
   rw [hp]
   exact⟨rz,[],[],[],rfl,rfl,rz_m _,below_setRow HQ90.out.below HQ90.out.base zr,z3i _⟩)
  go_wp2_with ((with_reducible refine z0e rz HQ90.out.res ?_ ?_ ?_);rfl;rfl)
  (try simp only [Exit.inBlock,Exit.then])
  refine bodyPost_ret (v:=.tuple #[.agg zr,.int .i64 8]) ?_ rfl HG.out
  exact z0m rfl _ _ R rz _ rfl rfl HRF.out
 have HRF:Hid (RB (w90.setRow R (rcs (rm 2 ((Qsg.2:Nat):Int) ((Qtx.2:Nat):Int) ((Qst.2:Nat):Int) Qcp.2 0 0 0 0 0))) R (rm 2 ((Qsg.2:Nat):Int) ((Qtx.2:Nat):Int) ((Qst.2:Nat):Int) Qcp.2 0 0 0 0 0)):=hid (HQ90.out.res.set _)
 have HG:Hid (z0s W (decX Bs) (.returned (.tuple #[.agg (rcs (rm 2 ((Qsg.2:Nat):Int) ((Qtx.2:Nat):Int) ((Qst.2:Nat):Int) Qcp.2 0 0 0 0 0)),.int .i64 0])) (w90.setRow R (rcs (rm 2 ((Qsg.2:Nat):Int) ((Qtx.2:Nat):Int) ((Qst.2:Nat):Int) Qcp.2 0 0 0 0 0)))):=hid (by
  have hp:decX Bs=(0,(rm 2 ((Qsg.2:Nat):Int) ((Qtx.2:Nat):Int) ((Qst.2:Nat):Int) Qcp.2 0 0 0 0 0).x [] [] []):=by rw [HDY.out,← HXX.out,if_pos hg]
  rw [hp]
  exact⟨(rm 2 ((Qsg.2:Nat):Int) ((Qtx.2:Nat):Int) ((Qst.2:Nat):Int) Qcp.2 0 0 0 0 0),[],[],[],rfl,rfl,z1b _ _ _ _ _ _ _ _ _ _ _,below_setRow HQ90.out.below HQ90.out.base (rcs (rm 2 ((Qsg.2:Nat):Int) ((Qtx.2:Nat):Int) ((Qst.2:Nat):Int) Qcp.2 0 0 0 0 0)),q1d _ rfl rfl rfl⟩)
 clear hg
 go_wp2_with (first | ((with_reducible refine z0q HQ90.out.x ?_ ?_);rfl) | ((with_reducible refine z0e (rm 2 ((Qsg.2:Nat):Int) ((Qtx.2:Nat):Int) ((Qst.2:Nat):Int) Qcp.2 0 0 0 0 0) HQ90.out.res ?_ ?_ ?_);rfl;rfl))
 (try simp only [Exit.inBlock,Exit.then])
 refine bodyPost_ret (v:=.tuple #[.agg (rcs (rm 2 ((Qsg.2:Nat):Int) ((Qtx.2:Nat):Int) ((Qst.2:Nat):Int) Qcp.2 0 0 0 0 0)),.int .i64 0]) ?_ rfl HG.out
 exact z0m rfl _ _ R (rm 2 ((Qsg.2:Nat):Int) ((Qtx.2:Nat):Int) ((Qst.2:Nat):Int) Qcp.2 0 0 0 0 0) _ rfl rfl HRF.out
theorem rrec_dec3 (p:Option Addr) (n c:Nat) (Bs:List Nat) (W:World) (hw:Words W) (hS:Sl W p n c Bs) (hcm:c≤maxLen) (hk:(((numR ((0,Bs):St) 1).2:Nat):Int)=3):Calls Tryz.prog 50 #[.slice p n c] W (z0s W (decX Bs)):=by
 obtain⟨R,w00,w0,hR,hw00,hs00,hx00,hw0,hQ0⟩:=z3c p n c Bs W hS hcm
 have HW00:=hid hw00
 have HS00:=hid hs00
 have HX00:=hid hx00
 have HW0:=hid hw0
 have HQ0:=hid hQ0
 have HRE:=hid hR
 have HWD:=hid hw
 have HBY:Hid (∀ y∈Bs,y<256):=hid hS.lt
 clear hw00 hs00 hx00 hw0 hQ0 hR hw hS hcm
 obtain⟨R0,hR0⟩:∃ Q,numR ((0,Bs):St) 1=Q:=⟨_,rfl⟩
 have hn:=z0n HQ0.out.z 1 (by omega)
 have hf:=z1p HQ0.out.z
 have hz0:=q0s (Bs:=Bs) (by rw [hk];rfl)
 rw [hR0] at hz0
 have HZ0:=hid hz0
 clear hz0
 rw [hR0] at hn hf hk
 have HR0:=hid hR0
 have hx0:IntKind.u8.wrap ((R0.2:Nat):Int)=(R0.2:Nat):=z1g hf
 rw [hk] at hn hx0
 have HKK:=hid hk
 clear hf hR0 hk
 go_enter Tryz.func50,Tryz.ntmps50
 go_upto_region 2 with (fail)
 rw [HW00.out,HRE.out]
 go_upto_region 3 with ((try rw [HS00.out]);(with_reducible refine z0e rz HX00.out ?_ ?_ ?_);rfl;rfl;rw [HW0.out])
 go_wp2_with fail
 refine hn.mono ?_
 rintro e y0 ⟨rfl,hz,hc⟩
 have HQb:=hid (HQ0.out.low hz hc)
 clear hz hc hn
 obtain⟨cy,cf⟩:=HQb.out.cx (j:=0) (v:=.int .u8 0) rfl
 go_upto_region 4 with (fail)
 clear cy cf hx0
 have hq:=HQb.out.put 0 (.int .u8 3) (rm 3 0 0 0 false 0 0 0 0 0) rfl
 generalize y0.setCell ⟨R+2,0,none⟩ (.int .u8 3)=w1 at *
 have HQ1:=hid hq
 clear hq HQb HQ0 HW00 HS00 HX00 HW0
 have x1:=HQ1.out.z.err
 rw [HZ0.out] at x1
 have c0:=(HQ1.out.cx (j:=0) (v:=.int .u8 3) rfl).1
 go_wp2_with fail
 clear x1
 have hn:=z0n HQ1.out.z 4 (by omega)
 obtain⟨Qtx,hQtx⟩:∃ Q,numR R0.1 4=Q:=⟨_,rfl⟩
 have hf:=z4i HQ1.out.z
 rw [hQtx] at hn hf
 have hxtx:IntKind.u32.wrap ((Qtx.2:Nat):Int)=(Qtx.2:Nat):=z1w hf
 clear hf
 have HQtx:=hid hQtx
 clear hQtx
 refine hn.mono ?_
 rintro e y2 ⟨rfl,hz,hc⟩
 have HQb:=hid (HQ1.out.low hz hc)
 clear hz hc hn HQ1 c0
 obtain⟨cy,cf⟩:=HQb.out.cx (j:=2) (v:=.int .u32 0) rfl
 go_upto_region 10 with (fail)
 clear cy cf hxtx
 have hq:=HQb.out.put 2 (.int .u32 ((Qtx.2:Nat):Int)) (rm 3 0 ((Qtx.2:Nat):Int) 0 false 0 0 0 0 0) rfl
 generalize y2.setCell ⟨R+2,2,none⟩ (.int .u32 ((Qtx.2:Nat):Int))=w2 at *
 have HQ2:=hid hq
 clear hq HQb
 have c0:=(HQ2.out.cx (j:=0) (v:=.int .u8 3) rfl).1
 go_wp2_with fail
 have hn:=z0n HQ2.out.z 1 (by omega)
 obtain⟨Qka,hQka⟩:∃ Q,numR Qtx.1 1=Q:=⟨_,rfl⟩
 have hf:=z1p HQ2.out.z
 rw [hQka] at hn hf
 have hxka:IntKind.u8.wrap ((Qka.2:Nat):Int)=(Qka.2:Nat):=z1g hf
 clear hf
 have HQka:=hid hQka
 clear hQka
 refine hn.mono ?_
 rintro e y3 ⟨rfl,hz,hc⟩
 have HQb:=hid (HQ2.out.low hz hc)
 clear hz hc hn HQ2 c0
 obtain⟨cy,cf⟩:=HQb.out.cx (j:=5) (v:=.int .u8 0) rfl
 go_upto_region 15 with (fail)
 clear cy cf hxka
 have hq:=HQb.out.put 5 (.int .u8 ((Qka.2:Nat):Int)) (rm 3 0 ((Qtx.2:Nat):Int) 0 false ((Qka.2:Nat):Int) 0 0 0 0) rfl
 generalize y3.setCell ⟨R+2,5,none⟩ (.int .u8 ((Qka.2:Nat):Int))=w3 at *
 have HQ3:=hid hq
 clear hq HQb
 have c0:=(HQ3.out.cx (j:=0) (v:=.int .u8 3) rfl).1
 go_wp2_with fail
 have hn:=z0n HQ3.out.z 1 (by omega)
 obtain⟨Qkb,hQkb⟩:∃ Q,numR Qka.1 1=Q:=⟨_,rfl⟩
 have hf:=z1p HQ3.out.z
 rw [hQkb] at hn hf
 have hxkb:IntKind.u8.wrap ((Qkb.2:Nat):Int)=(Qkb.2:Nat):=z1g hf
 clear hf
 have HQkb:=hid hQkb
 clear hQkb
 refine hn.mono ?_
 rintro e y4 ⟨rfl,hz,hc⟩
 have HQb:=hid (HQ3.out.low hz hc)
 clear hz hc hn HQ3 c0
 obtain⟨cy,cf⟩:=HQb.out.cx (j:=6) (v:=.int .u8 0) rfl
 go_upto_region 16 with (fail)
 clear cy cf hxkb
 have hq:=HQb.out.put 6 (.int .u8 ((Qkb.2:Nat):Int)) (rm 3 0 ((Qtx.2:Nat):Int) 0 false ((Qka.2:Nat):Int) ((Qkb.2:Nat):Int) 0 0 0) rfl
 generalize y4.setCell ⟨R+2,6,none⟩ (.int .u8 ((Qkb.2:Nat):Int))=w4 at *
 have HQ4:=hid hq
 clear hq HQb
 have c0:=(HQ4.out.cx (j:=0) (v:=.int .u8 3) rfl).1
 go_wp2_with fail
 have hn:=z0n HQ4.out.z 1 (by omega)
 obtain⟨Qkc,hQkc⟩:∃ Q,numR Qkb.1 1=Q:=⟨_,rfl⟩
 have hf:=z1p HQ4.out.z
 rw [hQkc] at hn hf
 have hxkc:IntKind.u8.wrap ((Qkc.2:Nat):Int)=(Qkc.2:Nat):=z1g hf
 clear hf
 have HQkc:=hid hQkc
 clear hQkc
 refine hn.mono ?_
 rintro e y5 ⟨rfl,hz,hc⟩
 have HQb:=hid (HQ4.out.low hz hc)
 clear hz hc hn HQ4 c0
 obtain⟨cy,cf⟩:=HQb.out.cx (j:=7) (v:=.int .u8 0) rfl
 go_upto_region 17 with (fail)
 clear cy cf hxkc
 have hq:=HQb.out.put 7 (.int .u8 ((Qkc.2:Nat):Int)) (rm 3 0 ((Qtx.2:Nat):Int) 0 false ((Qka.2:Nat):Int) ((Qkb.2:Nat):Int) ((Qkc.2:Nat):Int) 0 0) rfl
 generalize y5.setCell ⟨R+2,7,none⟩ (.int .u8 ((Qkc.2:Nat):Int))=w5 at *
 have HQ5:=hid hq
 clear hq HQb
 have c0:=(HQ5.out.cx (j:=0) (v:=.int .u8 3) rfl).1
 go_wp2_with fail
 have hn:=z5m HQ5.out.z
 obtain⟨Qd,hQd⟩:∃ Q,numR Qkc.1 8=Q:=⟨_,rfl⟩
 have hf:=z8a HQ5.out.z
 rw [hQd] at hn hf
 rw [z5v _ hf] at hn
 clear hf
 have HQd:=hid hQd
 clear hQd
 refine hn.mono ?_
 rintro e y6 ⟨rfl,hz,hc⟩
 have HQb:=hid (HQ5.out.low hz hc)
 clear hz hc hn HQ5 c0
 obtain⟨cy,cf⟩:=HQb.out.cx (j:=8) (v:=.int .i64 0) rfl
 go_upto_region 18 with (fail)
 clear cy cf
 have hq:=HQb.out.put 8 (.int .i64 (sgn Qd.2)) (rm 3 0 ((Qtx.2:Nat):Int) 0 false ((Qka.2:Nat):Int) ((Qkb.2:Nat):Int) ((Qkc.2:Nat):Int) (sgn Qd.2) 0) rfl
 generalize y6.setCell ⟨R+2,8,none⟩ (.int .i64 (sgn Qd.2))=w6 at *
 have HQ6:=hid hq
 clear hq HQb
 have c0:=(HQ6.out.cx (j:=0) (v:=.int .u8 3) rfl).1
 obtain⟨DD,hDD⟩:∃ D:Rdd,D=⟨Qd.1,{ noX with k:=3,sg:=0,tx:=((Qtx.2:Nat):Int),st:=0,cp:=false,key:=(((Qka.2:Nat):Int),((Qkb.2:Nat):Int),((Qkc.2:Nat):Int)),d:=(sgn Qd.2),o:=0 },0⟩:=⟨_,rfl⟩
 have HRX:Hid (rdX 3 R0.1=DD):=hid (by rw [hDD];simp [rdX,rd3,keyR,HQtx.out,HQka.out,HQkb.out,HQkc.out,HQd.out,noX])
 have HED:Hid (errD DD=Qd.1.1):=hid (by rw [hDD];rfl)
 have HST:Hid (DD.st.2=Qd.1.2):=hid (by rw [hDD])
 have HXX:Hid ((rm 3 0 ((Qtx.2:Nat):Int) 0 false ((Qka.2:Nat):Int) ((Qkb.2:Nat):Int) ((Qkc.2:Nat):Int) (sgn Qd.2) 0).x [] [] []=DD.rx):=hid (by rw [hDD];rfl)
 clear hDD
 have HKO:Hid (kOk 3=true):=hid rfl
 have HDX:=hid (z4q HR0.out HKK.out HKO.out HRX.out)
 have x1:=HQ6.out.z.err
 by_cases he9:Qd.1.1=0
 case neg =>
  have d9:(Qd.1.1 != 0)=true:=by simpa using he9
  have hq9:Hid (Qd.1.1≠0):=hid he9
  obtain⟨pr,nr,cr,hbx,hpr⟩:=HQ6.out.z.box
  have HQd:=hid (HQ6.out.later (show Below w6.heap.size w6 w6.drew from (Below.refl _ _).drew))
  have HBX:Hid (w6.drew.heap[R+1]?=some (.cells #[.slice pr nr cr,.int .i64 Qd.1.1] 162 (0,0))):=hid hbx
  clear he9 hbx hpr
  have HRF:Hid (RB (w6.drew.setRow R (rcs rz)) R rz):=hid (HQd.out.res.set _)
  have HG:Hid (z0s W (decX Bs) (.returned (.tuple #[.agg zr,.int .i64 Qd.1.1])) (w6.drew.setRow R zr)):=hid (by
   have hp:decX Bs=(Qd.1.1,noX):=by
    rw [HDX.out,if_pos (by rw [z2r (by rw [HED.out];exact hq9.out),HED.out];exact hq9.out),z2r (by rw [HED.out];exact hq9.out),HED.out]
   rw [hp]
   exact⟨rz,[],[],[],rfl,rfl,rz_m _,below_setRow HQd.out.below HQd.out.base zr,z3i _⟩)
  go_wp2_with fail
  refine wp_region_held_drew (S:=fun w'=>Hid (w'.heap[R+1]?=some (.cells #[.slice pr nr cr,.int .i64 Qd.1.1] 162 (0,0)))) (by kernel_rfl) HBX (fun hHeld=>?_)
  refine wpAnyH_take (i:=0) (oi:=⟨some 113,_,_,_,_,_⟩) (v:=.agg zr) rfl (by kernel_rfl) (by kernel_rfl) (by kernel_rfl) (fun _ _ _ h=>h) (Or.inl ⟨by rfl,fun w' hw'=>?_⟩) (by assumption) ?_
  · clear hHeld
    go_simp
  simp only [Act.put,sIB,sCZ,sCS]
  refine wpAnyH_take (i:=1) (oi:=⟨some 114,_,_,_,_,_⟩) (v:=.pointer (some ⟨R+1,0,none⟩)) rfl (by kernel_rfl) (by kernel_rfl) (by kernel_rfl) (fun _ _ _ h=>h) (Or.inl ⟨by rfl,fun w' hw'=>?_⟩) (by assumption) ?_
  · clear hHeld
    go_simp
  simp only [Act.put,sIB,sCZ,sCS]
  refine wpAnyH_take (i:=2) (oi:=⟨some 115,_,_,_,_,_⟩) (v:=.pointer (some ⟨R+1,0,none⟩)) rfl (by kernel_rfl) (by kernel_rfl) (by kernel_rfl) (fun _ _ _ h=>h) (Or.inl ⟨by rfl,fun w' hw'=>?_⟩) (by assumption) ?_
  · clear hHeld
    go_simp
  simp only [Act.put,sIB,sCZ,sCS]
  refine wpAnyH_take (i:=3) (oi:=⟨some 116,_,_,_,_,_⟩) (v:=.pointer (some ⟨R+1,1,none⟩)) rfl (by kernel_rfl) (by kernel_rfl) (by kernel_rfl) (fun _ _ _ h=>h) (Or.inl ⟨by rfl,fun w' hw'=>?_⟩) (by assumption) ?_
  · clear hHeld
    go_simp
  simp only [Act.put,sIB,sCZ,sCS]
  refine wpAnyH_take (i:=4) (oi:=⟨some 117,_,_,_,_,_⟩) (v:=.int .i64 Qd.1.1) rfl (by kernel_rfl) (by kernel_rfl) (by kernel_rfl) (fun _ _ _ h=>h) (Or.inl ⟨by rfl,fun w' hw'=>?_⟩) (by assumption) ?_
  · have g1:=z0a (j:=1) (v:=.int .i64 Qd.1.1) hw'.out rfl
    clear hHeld
    go_simp
  simp only [Act.put,sIB,sCZ,sCS]
  generalize w6.drew=Wd at *
  refine wpAnyH_ready (rs:=[5]) (by kernel_rfl) (by simp) (AllReadyH.cons rfl (fun K hK=>?_) AllReadyH.nil)
  rw [if_pos (by rfl)]
  refine wp_store_row 51 _ _ rfl R zr rfl rfl 51 _ HQd.out.res (by kernel_rfl) rfl (z2c rz) ?_
  have HB2:Hid ((Wd.setRow R zr).heap[R+1]?=some (.cells #[.slice pr nr cr,.int .i64 Qd.1.1] 162 (0,0))):=hid ((setRow_other _ _ _ _ (by omega)).trans HBX.out)
  refine hK.out _ _ HB2 (fun hHeld2=>?_)
  clear hK K hHeld
  have hHeld:=hHeld2
  clear hHeld2
  (try simp only [Act.put,sIB,sCZ,sCS])
  refine wpAnyH_take (i:=6) (oi:=⟨some 3,_,_,_,_,_⟩) (v:=.int .i64 Qd.1.1) rfl (by kernel_rfl) (by kernel_rfl) (by kernel_rfl) (fun _ _ _ h=>h) (Or.inl ⟨by rfl,fun w' hw'=>?_⟩) (by assumption) ?_
  · clear hHeld
    go_simp
  simp only [Act.put,sIB,sCZ,sCS]
  refine wpAnyH_done (by kernel_rfl) ?_ _
  clear hHeld
  (try simp only [Exit.inBlock,Exit.then])
  go_wp2_with fail
  refine bodyPost_ret (v:=.tuple #[.agg zr,.int .i64 Qd.1.1]) ?_ rfl HG.out
  exact z0m rfl _ _ R rz _ rfl rfl HRF.out
 have d9:(Qd.1.1 != 0)=false:=by simp [he9]
 obtain⟨pr,nr,cr,hbx,hpr⟩:=HQ6.out.z.box
 have hln:=(hpr he9).1.len
 rw [he9] at hbx
 have HLN:=hid hln
 have HZ9:Hid (errD DD=0):=hid (HED.out.trans he9)
 have b0:w6.cell? ⟨R+1,0,none⟩=some (.slice pr nr cr):=z0a hbx rfl
 have b1:w6.cell? ⟨R+1,1,none⟩=some (.int .i64 0):=z0a hbx rfl
 clear hbx hpr hln x1
 rw [he9] at d9
 clear he9
 by_cases hnr:0<nr
 case pos =>
  have hd:decide ((0:Int)<(nr:Int))=true:=decide_eq_true (by omega)
  have hdn:decide (0<nr)=true:=decide_eq_true hnr
  have HNR:=hid hnr
  clear hnr
  have HRF:Hid (RB (w6.setRow R (rcs rz)) R rz):=hid (HQ6.out.res.set _)
  have HG:Hid (z0s W (decX Bs) (.returned (.tuple #[.agg zr,.int .i64 8])) (w6.setRow R zr)):=hid (by
   have hp:decX Bs=(8,noX):=by
    have h8:=z4n HZ9.out (by rw [HST.out,HLN.out];exact HNR.out)
    rw [HDX.out,if_pos (by rw [h8];decide),h8]
   rw [hp]
   exact⟨rz,[],[],[],rfl,rfl,rz_m _,below_setRow HQ6.out.below HQ6.out.base zr,z3i _⟩)
  go_wp2_with ((with_reducible refine z0e rz HQ6.out.res ?_ ?_ ?_);rfl;rfl)
  (try simp only [Exit.inBlock,Exit.then])
  refine bodyPost_ret (v:=.tuple #[.agg zr,.int .i64 8]) ?_ rfl HG.out
  exact z0m rfl _ _ R rz _ rfl rfl HRF.out
 have hd:decide ((0:Int)<(nr:Int))=false:=decide_eq_false (by omega)
 have hdn:decide (0<nr)=false:=decide_eq_false hnr
 have HNR:=hid hnr
 clear hnr
 have h0:rdE DD=0:=z5w HZ9.out (by rw [HST.out,HLN.out];exact HNR.out)
 have HDY:Hid (decX Bs=if z1f DD.rx=true then (0,DD.rx) else (8,noX)):=hid (by rw [HDX.out,if_neg (fun h=>h h0)])
 have HMM:=hid ((z1b 3 0 ((Qtx.2:Nat):Int) 0 false ((Qka.2:Nat):Int) ((Qkb.2:Nat):Int) ((Qkc.2:Nat):Int) (sgn Qd.2) 0 w6))
 have hokk:=z6d (k:=3) HKO.out (S:=R0.1) (by rw [← HR0.out];exact z0k (S:=(0,Bs)) HBY.out 1)
 rw [HRX.out,← HXX.out] at hokk
 obtain⟨hok,hs1,hs2,hs3⟩:=hokk
 have hgd:=z3p (rm 3 0 ((Qtx.2:Nat):Int) 0 false ((Qka.2:Nat):Int) ((Qkb.2:Nat):Int) ((Qkc.2:Nat):Int) (sgn Qd.2) 0) [] [] [] w6 HMM.out hok (z3q HMM.out ⟨hs1,hs2,hs3⟩)
 clear h0 hok hs1 hs2 hs3
 go_wp2_with (first | ((with_reducible refine z0d HQ6.out.x ?_ ?_ ?_);rfl;rfl))
 refine hgd.mono ?_
 rintro e w90 ⟨rfl,hb90⟩
 have HQ90:=hid (HQ6.out.later hb90)
 have HM90:=hid (HMM.out.later hb90)
 clear hb90 hgd b0 b1
 cases hg:z1f ((rm 3 0 ((Qtx.2:Nat):Int) 0 false ((Qka.2:Nat):Int) ((Qkb.2:Nat):Int) ((Qkc.2:Nat):Int) (sgn Qd.2) 0).x [] [] [])
 case false =>
  have HRF:Hid (RB (w90.setRow R (rcs rz)) R rz):=hid (HQ90.out.res.set _)
  have HG:Hid (z0s W (decX Bs) (.returned (.tuple #[.agg zr,.int .i64 8])) (w90.setRow R zr)):=hid (by
   have hp:decX Bs=(8,noX):=by
    rw [HDY.out,← HXX.out,if_neg (by rw [hg];decide)]
   rw [hp]
   exact⟨rz,[],[],[],rfl,rfl,rz_m _,below_setRow HQ90.out.below HQ90.out.base zr,z3i _⟩)
  go_wp2_with ((with_reducible refine z0e rz HQ90.out.res ?_ ?_ ?_);rfl;rfl)
  (try simp only [Exit.inBlock,Exit.then])
  refine bodyPost_ret (v:=.tuple #[.agg zr,.int .i64 8]) ?_ rfl HG.out
  exact z0m rfl _ _ R rz _ rfl rfl HRF.out
 have HRF:Hid (RB (w90.setRow R (rcs (rm 3 0 ((Qtx.2:Nat):Int) 0 false ((Qka.2:Nat):Int) ((Qkb.2:Nat):Int) ((Qkc.2:Nat):Int) (sgn Qd.2) 0))) R (rm 3 0 ((Qtx.2:Nat):Int) 0 false ((Qka.2:Nat):Int) ((Qkb.2:Nat):Int) ((Qkc.2:Nat):Int) (sgn Qd.2) 0)):=hid (HQ90.out.res.set _)
 have HG:Hid (z0s W (decX Bs) (.returned (.tuple #[.agg (rcs (rm 3 0 ((Qtx.2:Nat):Int) 0 false ((Qka.2:Nat):Int) ((Qkb.2:Nat):Int) ((Qkc.2:Nat):Int) (sgn Qd.2) 0)),.int .i64 0])) (w90.setRow R (rcs (rm 3 0 ((Qtx.2:Nat):Int) 0 false ((Qka.2:Nat):Int) ((Qkb.2:Nat):Int) ((Qkc.2:Nat):Int) (sgn Qd.2) 0)))):=hid (by
  have hp:decX Bs=(0,(rm 3 0 ((Qtx.2:Nat):Int) 0 false ((Qka.2:Nat):Int) ((Qkb.2:Nat):Int) ((Qkc.2:Nat):Int) (sgn Qd.2) 0).x [] [] []):=by rw [HDY.out,← HXX.out,if_pos hg]
  rw [hp]
  exact⟨(rm 3 0 ((Qtx.2:Nat):Int) 0 false ((Qka.2:Nat):Int) ((Qkb.2:Nat):Int) ((Qkc.2:Nat):Int) (sgn Qd.2) 0),[],[],[],rfl,rfl,z1b _ _ _ _ _ _ _ _ _ _ _,below_setRow HQ90.out.below HQ90.out.base (rcs (rm 3 0 ((Qtx.2:Nat):Int) 0 false ((Qka.2:Nat):Int) ((Qkb.2:Nat):Int) ((Qkc.2:Nat):Int) (sgn Qd.2) 0)),q1d _ rfl rfl rfl⟩)
 clear hg
 go_wp2_with (first | ((with_reducible refine z0q HQ90.out.x ?_ ?_);rfl) | ((with_reducible refine z0e (rm 3 0 ((Qtx.2:Nat):Int) 0 false ((Qka.2:Nat):Int) ((Qkb.2:Nat):Int) ((Qkc.2:Nat):Int) (sgn Qd.2) 0) HQ90.out.res ?_ ?_ ?_);rfl;rfl))
 (try simp only [Exit.inBlock,Exit.then])
 refine bodyPost_ret (v:=.tuple #[.agg (rcs (rm 3 0 ((Qtx.2:Nat):Int) 0 false ((Qka.2:Nat):Int) ((Qkb.2:Nat):Int) ((Qkc.2:Nat):Int) (sgn Qd.2) 0)),.int .i64 0]) ?_ rfl HG.out
 exact z0m rfl _ _ R (rm 3 0 ((Qtx.2:Nat):Int) 0 false ((Qka.2:Nat):Int) ((Qkb.2:Nat):Int) ((Qkc.2:Nat):Int) (sgn Qd.2) 0) _ rfl rfl HRF.out
theorem rrec_dec4 (p:Option Addr) (n c:Nat) (Bs:List Nat) (W:World) (hw:Words W) (hS:Sl W p n c Bs) (hcm:c≤maxLen) (hk:(((numR ((0,Bs):St) 1).2:Nat):Int)=4):Calls Tryz.prog 50 #[.slice p n c] W (z0s W (decX Bs)):=by
 obtain⟨R,w00,w0,hR,hw00,hs00,hx00,hw0,hQ0⟩:=z3c p n c Bs W hS hcm
 have HW00:=hid hw00
 have HS00:=hid hs00
 have HX00:=hid hx00
 have HW0:=hid hw0
 have HQ0:=hid hQ0
 have HRE:=hid hR
 have HWD:=hid hw
 have HBY:Hid (∀ y∈Bs,y<256):=hid hS.lt
 clear hw00 hs00 hx00 hw0 hQ0 hR hw hS hcm
 obtain⟨R0,hR0⟩:∃ Q,numR ((0,Bs):St) 1=Q:=⟨_,rfl⟩
 have hn:=z0n HQ0.out.z 1 (by omega)
 have hf:=z1p HQ0.out.z
 have hz0:=q0s (Bs:=Bs) (by rw [hk];rfl)
 rw [hR0] at hz0
 have HZ0:=hid hz0
 clear hz0
 rw [hR0] at hn hf hk
 have HR0:=hid hR0
 have hx0:IntKind.u8.wrap ((R0.2:Nat):Int)=(R0.2:Nat):=z1g hf
 rw [hk] at hn hx0
 have HKK:=hid hk
 clear hf hR0 hk
 go_enter Tryz.func50,Tryz.ntmps50
 go_upto_region 2 with (fail)
 rw [HW00.out,HRE.out]
 go_upto_region 3 with ((try rw [HS00.out]);(with_reducible refine z0e rz HX00.out ?_ ?_ ?_);rfl;rfl;rw [HW0.out])
 go_wp2_with fail
 refine hn.mono ?_
 rintro e y0 ⟨rfl,hz,hc⟩
 have HQb:=hid (HQ0.out.low hz hc)
 clear hz hc hn
 obtain⟨cy,cf⟩:=HQb.out.cx (j:=0) (v:=.int .u8 0) rfl
 go_upto_region 4 with (fail)
 clear cy cf hx0
 have hq:=HQb.out.put 0 (.int .u8 4) (rm 4 0 0 0 false 0 0 0 0 0) rfl
 generalize y0.setCell ⟨R+2,0,none⟩ (.int .u8 4)=w1 at *
 have HQ1:=hid hq
 clear hq HQb HQ0 HW00 HS00 HX00 HW0
 have x1:=HQ1.out.z.err
 rw [HZ0.out] at x1
 have c0:=(HQ1.out.cx (j:=0) (v:=.int .u8 4) rfl).1
 go_wp2_with fail
 clear x1
 have hn:=z0n HQ1.out.z 4 (by omega)
 obtain⟨Qtx,hQtx⟩:∃ Q,numR R0.1 4=Q:=⟨_,rfl⟩
 have hf:=z4i HQ1.out.z
 rw [hQtx] at hn hf
 have hxtx:IntKind.u32.wrap ((Qtx.2:Nat):Int)=(Qtx.2:Nat):=z1w hf
 clear hf
 have HQtx:=hid hQtx
 clear hQtx
 refine hn.mono ?_
 rintro e y2 ⟨rfl,hz,hc⟩
 have HQb:=hid (HQ1.out.low hz hc)
 clear hz hc hn HQ1 c0
 obtain⟨cy,cf⟩:=HQb.out.cx (j:=2) (v:=.int .u32 0) rfl
 go_upto_region 10 with (fail)
 clear cy cf hxtx
 have hq:=HQb.out.put 2 (.int .u32 ((Qtx.2:Nat):Int)) (rm 4 0 ((Qtx.2:Nat):Int) 0 false 0 0 0 0 0) rfl
 generalize y2.setCell ⟨R+2,2,none⟩ (.int .u32 ((Qtx.2:Nat):Int))=w2 at *
 have HQ2:=hid hq
 clear hq HQb
 have c0:=(HQ2.out.cx (j:=0) (v:=.int .u8 4) rfl).1
 obtain⟨DD,hDD⟩:∃ D:Rdd,D=⟨Qtx.1,{ noX with k:=4,sg:=0,tx:=((Qtx.2:Nat):Int),st:=0,cp:=false,key:=(0,0,0),d:=0,o:=0 },0⟩:=⟨_,rfl⟩
 have HRX:Hid (rdX 4 R0.1=DD):=hid (by rw [hDD];simp [rdX,rd4,keyR,HQtx.out,noX])
 have HED:Hid (errD DD=Qtx.1.1):=hid (by rw [hDD];rfl)
 have HST:Hid (DD.st.2=Qtx.1.2):=hid (by rw [hDD])
 have HXX:Hid ((rm 4 0 ((Qtx.2:Nat):Int) 0 false 0 0 0 0 0).x [] [] []=DD.rx):=hid (by rw [hDD];rfl)
 clear hDD
 have HKO:Hid (kOk 4=true):=hid rfl
 have HDX:=hid (z4q HR0.out HKK.out HKO.out HRX.out)
 have x1:=HQ2.out.z.err
 by_cases he9:Qtx.1.1=0
 case neg =>
  have d9:(Qtx.1.1 != 0)=true:=by simpa using he9
  have hq9:Hid (Qtx.1.1≠0):=hid he9
  obtain⟨pr,nr,cr,hbx,hpr⟩:=HQ2.out.z.box
  have HQd:=hid (HQ2.out.later (show Below w2.heap.size w2 w2.drew from (Below.refl _ _).drew))
  have HBX:Hid (w2.drew.heap[R+1]?=some (.cells #[.slice pr nr cr,.int .i64 Qtx.1.1] 162 (0,0))):=hid hbx
  clear he9 hbx hpr
  have HRF:Hid (RB (w2.drew.setRow R (rcs rz)) R rz):=hid (HQd.out.res.set _)
  have HG:Hid (z0s W (decX Bs) (.returned (.tuple #[.agg zr,.int .i64 Qtx.1.1])) (w2.drew.setRow R zr)):=hid (by
   have hp:decX Bs=(Qtx.1.1,noX):=by
    rw [HDX.out,if_pos (by rw [z2r (by rw [HED.out];exact hq9.out),HED.out];exact hq9.out),z2r (by rw [HED.out];exact hq9.out),HED.out]
   rw [hp]
   exact⟨rz,[],[],[],rfl,rfl,rz_m _,below_setRow HQd.out.below HQd.out.base zr,z3i _⟩)
  go_wp2_with fail
  refine wp_region_held_drew (S:=fun w'=>Hid (w'.heap[R+1]?=some (.cells #[.slice pr nr cr,.int .i64 Qtx.1.1] 162 (0,0)))) (by kernel_rfl) HBX (fun hHeld=>?_)
  refine wpAnyH_take (i:=0) (oi:=⟨some 113,_,_,_,_,_⟩) (v:=.agg zr) rfl (by kernel_rfl) (by kernel_rfl) (by kernel_rfl) (fun _ _ _ h=>h) (Or.inl ⟨by rfl,fun w' hw'=>?_⟩) (by assumption) ?_
  · clear hHeld
    go_simp
  simp only [Act.put,sIB,sCZ,sCS]
  refine wpAnyH_take (i:=1) (oi:=⟨some 114,_,_,_,_,_⟩) (v:=.pointer (some ⟨R+1,0,none⟩)) rfl (by kernel_rfl) (by kernel_rfl) (by kernel_rfl) (fun _ _ _ h=>h) (Or.inl ⟨by rfl,fun w' hw'=>?_⟩) (by assumption) ?_
  · clear hHeld
    go_simp
  simp only [Act.put,sIB,sCZ,sCS]
  refine wpAnyH_take (i:=2) (oi:=⟨some 115,_,_,_,_,_⟩) (v:=.pointer (some ⟨R+1,0,none⟩)) rfl (by kernel_rfl) (by kernel_rfl) (by kernel_rfl) (fun _ _ _ h=>h) (Or.inl ⟨by rfl,fun w' hw'=>?_⟩) (by assumption) ?_
  · clear hHeld
    go_simp
  simp only [Act.put,sIB,sCZ,sCS]
  refine wpAnyH_take (i:=3) (oi:=⟨some 116,_,_,_,_,_⟩) (v:=.pointer (some ⟨R+1,1,none⟩)) rfl (by kernel_rfl) (by kernel_rfl) (by kernel_rfl) (fun _ _ _ h=>h) (Or.inl ⟨by rfl,fun w' hw'=>?_⟩) (by assumption) ?_
  · clear hHeld
    go_simp
  simp only [Act.put,sIB,sCZ,sCS]
  refine wpAnyH_take (i:=4) (oi:=⟨some 117,_,_,_,_,_⟩) (v:=.int .i64 Qtx.1.1) rfl (by kernel_rfl) (by kernel_rfl) (by kernel_rfl) (fun _ _ _ h=>h) (Or.inl ⟨by rfl,fun w' hw'=>?_⟩) (by assumption) ?_
  · have g1:=z0a (j:=1) (v:=.int .i64 Qtx.1.1) hw'.out rfl
    clear hHeld
    go_simp
  simp only [Act.put,sIB,sCZ,sCS]
  generalize w2.drew=Wd at *
  refine wpAnyH_ready (rs:=[5]) (by kernel_rfl) (by simp) (AllReadyH.cons rfl (fun K hK=>?_) AllReadyH.nil)
  rw [if_pos (by rfl)]
  refine wp_store_row 51 _ _ rfl R zr rfl rfl 51 _ HQd.out.res (by kernel_rfl) rfl (z2c rz) ?_
  have HB2:Hid ((Wd.setRow R zr).heap[R+1]?=some (.cells #[.slice pr nr cr,.int .i64 Qtx.1.1] 162 (0,0))):=hid ((setRow_other _ _ _ _ (by omega)).trans HBX.out)
  refine hK.out _ _ HB2 (fun hHeld2=>?_)
  clear hK K hHeld
  have hHeld:=hHeld2
  clear hHeld2
  (try simp only [Act.put,sIB,sCZ,sCS])
  refine wpAnyH_take (i:=6) (oi:=⟨some 3,_,_,_,_,_⟩) (v:=.int .i64 Qtx.1.1) rfl (by kernel_rfl) (by kernel_rfl) (by kernel_rfl) (fun _ _ _ h=>h) (Or.inl ⟨by rfl,fun w' hw'=>?_⟩) (by assumption) ?_
  · clear hHeld
    go_simp
  simp only [Act.put,sIB,sCZ,sCS]
  refine wpAnyH_done (by kernel_rfl) ?_ _
  clear hHeld
  (try simp only [Exit.inBlock,Exit.then])
  go_wp2_with fail
  refine bodyPost_ret (v:=.tuple #[.agg zr,.int .i64 Qtx.1.1]) ?_ rfl HG.out
  exact z0m rfl _ _ R rz _ rfl rfl HRF.out
 have d9:(Qtx.1.1 != 0)=false:=by simp [he9]
 obtain⟨pr,nr,cr,hbx,hpr⟩:=HQ2.out.z.box
 have hln:=(hpr he9).1.len
 rw [he9] at hbx
 have HLN:=hid hln
 have HZ9:Hid (errD DD=0):=hid (HED.out.trans he9)
 have b0:w2.cell? ⟨R+1,0,none⟩=some (.slice pr nr cr):=z0a hbx rfl
 have b1:w2.cell? ⟨R+1,1,none⟩=some (.int .i64 0):=z0a hbx rfl
 clear hbx hpr hln x1
 rw [he9] at d9
 clear he9
 by_cases hnr:0<nr
 case pos =>
  have hd:decide ((0:Int)<(nr:Int))=true:=decide_eq_true (by omega)
  have hdn:decide (0<nr)=true:=decide_eq_true hnr
  have HNR:=hid hnr
  clear hnr
  have HRF:Hid (RB (w2.setRow R (rcs rz)) R rz):=hid (HQ2.out.res.set _)
  have HG:Hid (z0s W (decX Bs) (.returned (.tuple #[.agg zr,.int .i64 8])) (w2.setRow R zr)):=hid (by
   have hp:decX Bs=(8,noX):=by
    have h8:=z4n HZ9.out (by rw [HST.out,HLN.out];exact HNR.out)
    rw [HDX.out,if_pos (by rw [h8];decide),h8]
   rw [hp]
   exact⟨rz,[],[],[],rfl,rfl,rz_m _,below_setRow HQ2.out.below HQ2.out.base zr,z3i _⟩)
  go_wp2_with ((with_reducible refine z0e rz HQ2.out.res ?_ ?_ ?_);rfl;rfl)
  (try simp only [Exit.inBlock,Exit.then])
  refine bodyPost_ret (v:=.tuple #[.agg zr,.int .i64 8]) ?_ rfl HG.out
  exact z0m rfl _ _ R rz _ rfl rfl HRF.out
 have hd:decide ((0:Int)<(nr:Int))=false:=decide_eq_false (by omega)
 have hdn:decide (0<nr)=false:=decide_eq_false hnr
 have HNR:=hid hnr
 clear hnr
 have h0:rdE DD=0:=z5w HZ9.out (by rw [HST.out,HLN.out];exact HNR.out)
 have HDY:Hid (decX Bs=if z1f DD.rx=true then (0,DD.rx) else (8,noX)):=hid (by rw [HDX.out,if_neg (fun h=>h h0)])
 have HMM:=hid ((z1b 4 0 ((Qtx.2:Nat):Int) 0 false 0 0 0 0 0 w2))
 have hokk:=z6d (k:=4) HKO.out (S:=R0.1) (by rw [← HR0.out];exact z0k (S:=(0,Bs)) HBY.out 1)
 rw [HRX.out,← HXX.out] at hokk
 obtain⟨hok,hs1,hs2,hs3⟩:=hokk
 have hgd:=z3p (rm 4 0 ((Qtx.2:Nat):Int) 0 false 0 0 0 0 0) [] [] [] w2 HMM.out hok (z3q HMM.out ⟨hs1,hs2,hs3⟩)
 clear h0 hok hs1 hs2 hs3
 go_wp2_with (first | ((with_reducible refine z0d HQ2.out.x ?_ ?_ ?_);rfl;rfl))
 refine hgd.mono ?_
 rintro e w90 ⟨rfl,hb90⟩
 have HQ90:=hid (HQ2.out.later hb90)
 have HM90:=hid (HMM.out.later hb90)
 clear hb90 hgd b0 b1
 cases hg:z1f ((rm 4 0 ((Qtx.2:Nat):Int) 0 false 0 0 0 0 0).x [] [] [])
 case false =>
  have HRF:Hid (RB (w90.setRow R (rcs rz)) R rz):=hid (HQ90.out.res.set _)
  have HG:Hid (z0s W (decX Bs) (.returned (.tuple #[.agg zr,.int .i64 8])) (w90.setRow R zr)):=hid (by
   have hp:decX Bs=(8,noX):=by
    rw [HDY.out,← HXX.out,if_neg (by rw [hg];decide)]
   rw [hp]
   exact⟨rz,[],[],[],rfl,rfl,rz_m _,below_setRow HQ90.out.below HQ90.out.base zr,z3i _⟩)
  go_wp2_with ((with_reducible refine z0e rz HQ90.out.res ?_ ?_ ?_);rfl;rfl)
  (try simp only [Exit.inBlock,Exit.then])
  refine bodyPost_ret (v:=.tuple #[.agg zr,.int .i64 8]) ?_ rfl HG.out
  exact z0m rfl _ _ R rz _ rfl rfl HRF.out
 have HRF:Hid (RB (w90.setRow R (rcs (rm 4 0 ((Qtx.2:Nat):Int) 0 false 0 0 0 0 0))) R (rm 4 0 ((Qtx.2:Nat):Int) 0 false 0 0 0 0 0)):=hid (HQ90.out.res.set _)
 have HG:Hid (z0s W (decX Bs) (.returned (.tuple #[.agg (rcs (rm 4 0 ((Qtx.2:Nat):Int) 0 false 0 0 0 0 0)),.int .i64 0])) (w90.setRow R (rcs (rm 4 0 ((Qtx.2:Nat):Int) 0 false 0 0 0 0 0)))):=hid (by
  have hp:decX Bs=(0,(rm 4 0 ((Qtx.2:Nat):Int) 0 false 0 0 0 0 0).x [] [] []):=by rw [HDY.out,← HXX.out,if_pos hg]
  rw [hp]
  exact⟨(rm 4 0 ((Qtx.2:Nat):Int) 0 false 0 0 0 0 0),[],[],[],rfl,rfl,z1b _ _ _ _ _ _ _ _ _ _ _,below_setRow HQ90.out.below HQ90.out.base (rcs (rm 4 0 ((Qtx.2:Nat):Int) 0 false 0 0 0 0 0)),q1d _ rfl rfl rfl⟩)
 clear hg
 go_wp2_with (first | ((with_reducible refine z0q HQ90.out.x ?_ ?_);rfl) | ((with_reducible refine z0e (rm 4 0 ((Qtx.2:Nat):Int) 0 false 0 0 0 0 0) HQ90.out.res ?_ ?_ ?_);rfl;rfl))
 (try simp only [Exit.inBlock,Exit.then])
 refine bodyPost_ret (v:=.tuple #[.agg (rcs (rm 4 0 ((Qtx.2:Nat):Int) 0 false 0 0 0 0 0)),.int .i64 0]) ?_ rfl HG.out
 exact z0m rfl _ _ R (rm 4 0 ((Qtx.2:Nat):Int) 0 false 0 0 0 0 0) _ rfl rfl HRF.out
theorem rrec_dec5 (p:Option Addr) (n c:Nat) (Bs:List Nat) (W:World) (hw:Words W) (hS:Sl W p n c Bs) (hcm:c≤maxLen) (hk:(((numR ((0,Bs):St) 1).2:Nat):Int)=5):Calls Tryz.prog 50 #[.slice p n c] W (z0s W (decX Bs)):=by
 obtain⟨R,w00,w0,hR,hw00,hs00,hx00,hw0,hQ0⟩:=z3c p n c Bs W hS hcm
 have HW00:=hid hw00
 have HS00:=hid hs00
 have HX00:=hid hx00
 have HW0:=hid hw0
 have HQ0:=hid hQ0
 have HRE:=hid hR
 have HWD:=hid hw
 have HBY:Hid (∀ y∈Bs,y<256):=hid hS.lt
 clear hw00 hs00 hx00 hw0 hQ0 hR hw hS hcm
 obtain⟨R0,hR0⟩:∃ Q,numR ((0,Bs):St) 1=Q:=⟨_,rfl⟩
 have hn:=z0n HQ0.out.z 1 (by omega)
 have hf:=z1p HQ0.out.z
 have hz0:=q0s (Bs:=Bs) (by rw [hk];rfl)
 rw [hR0] at hz0
 have HZ0:=hid hz0
 clear hz0
 rw [hR0] at hn hf hk
 have HR0:=hid hR0
 have hx0:IntKind.u8.wrap ((R0.2:Nat):Int)=(R0.2:Nat):=z1g hf
 rw [hk] at hn hx0
 have HKK:=hid hk
 clear hf hR0 hk
 go_enter Tryz.func50,Tryz.ntmps50
 go_upto_region 2 with (fail)
 rw [HW00.out,HRE.out]
 go_upto_region 3 with ((try rw [HS00.out]);(with_reducible refine z0e rz HX00.out ?_ ?_ ?_);rfl;rfl;rw [HW0.out])
 go_wp2_with fail
 refine hn.mono ?_
 rintro e y0 ⟨rfl,hz,hc⟩
 have HQb:=hid (HQ0.out.low hz hc)
 clear hz hc hn
 obtain⟨cy,cf⟩:=HQb.out.cx (j:=0) (v:=.int .u8 0) rfl
 go_upto_region 4 with (fail)
 clear cy cf hx0
 have hq:=HQb.out.put 0 (.int .u8 5) (rm 5 0 0 0 false 0 0 0 0 0) rfl
 generalize y0.setCell ⟨R+2,0,none⟩ (.int .u8 5)=w1 at *
 have HQ1:=hid hq
 clear hq HQb HQ0 HW00 HS00 HX00 HW0
 have x1:=HQ1.out.z.err
 rw [HZ0.out] at x1
 have c0:=(HQ1.out.cx (j:=0) (v:=.int .u8 5) rfl).1
 go_wp2_with fail
 clear x1
 have hn:=z0n HQ1.out.z 4 (by omega)
 obtain⟨Qtx,hQtx⟩:∃ Q,numR R0.1 4=Q:=⟨_,rfl⟩
 have hf:=z4i HQ1.out.z
 rw [hQtx] at hn hf
 have hxtx:IntKind.u32.wrap ((Qtx.2:Nat):Int)=(Qtx.2:Nat):=z1w hf
 clear hf
 have HQtx:=hid hQtx
 clear hQtx
 refine hn.mono ?_
 rintro e y2 ⟨rfl,hz,hc⟩
 have HQb:=hid (HQ1.out.low hz hc)
 clear hz hc hn HQ1 c0
 obtain⟨cy,cf⟩:=HQb.out.cx (j:=2) (v:=.int .u32 0) rfl
 go_upto_region 10 with (fail)
 clear cy cf hxtx
 have hq:=HQb.out.put 2 (.int .u32 ((Qtx.2:Nat):Int)) (rm 5 0 ((Qtx.2:Nat):Int) 0 false 0 0 0 0 0) rfl
 generalize y2.setCell ⟨R+2,2,none⟩ (.int .u32 ((Qtx.2:Nat):Int))=w2 at *
 have HQ2:=hid hq
 clear hq HQb
 have c0:=(HQ2.out.cx (j:=0) (v:=.int .u8 5) rfl).1
 obtain⟨DD,hDD⟩:∃ D:Rdd,D=⟨Qtx.1,{ noX with k:=5,sg:=0,tx:=((Qtx.2:Nat):Int),st:=0,cp:=false,key:=(0,0,0),d:=0,o:=0 },0⟩:=⟨_,rfl⟩
 have HRX:Hid (rdX 5 R0.1=DD):=hid (by rw [hDD];simp [rdX,rd4,keyR,HQtx.out,noX])
 have HED:Hid (errD DD=Qtx.1.1):=hid (by rw [hDD];rfl)
 have HST:Hid (DD.st.2=Qtx.1.2):=hid (by rw [hDD])
 have HXX:Hid ((rm 5 0 ((Qtx.2:Nat):Int) 0 false 0 0 0 0 0).x [] [] []=DD.rx):=hid (by rw [hDD];rfl)
 clear hDD
 have HKO:Hid (kOk 5=true):=hid rfl
 have HDX:=hid (z4q HR0.out HKK.out HKO.out HRX.out)
 have x1:=HQ2.out.z.err
 by_cases he9:Qtx.1.1=0
 case neg =>
  have d9:(Qtx.1.1 != 0)=true:=by simpa using he9
  have hq9:Hid (Qtx.1.1≠0):=hid he9
  obtain⟨pr,nr,cr,hbx,hpr⟩:=HQ2.out.z.box
  have HQd:=hid (HQ2.out.later (show Below w2.heap.size w2 w2.drew from (Below.refl _ _).drew))
  have HBX:Hid (w2.drew.heap[R+1]?=some (.cells #[.slice pr nr cr,.int .i64 Qtx.1.1] 162 (0,0))):=hid hbx
  clear he9 hbx hpr
  have HRF:Hid (RB (w2.drew.setRow R (rcs rz)) R rz):=hid (HQd.out.res.set _)
  have HG:Hid (z0s W (decX Bs) (.returned (.tuple #[.agg zr,.int .i64 Qtx.1.1])) (w2.drew.setRow R zr)):=hid (by
   have hp:decX Bs=(Qtx.1.1,noX):=by
    rw [HDX.out,if_pos (by rw [z2r (by rw [HED.out];exact hq9.out),HED.out];exact hq9.out),z2r (by rw [HED.out];exact hq9.out),HED.out]
   rw [hp]
   exact⟨rz,[],[],[],rfl,rfl,rz_m _,below_setRow HQd.out.below HQd.out.base zr,z3i _⟩)
  go_wp2_with fail
  refine wp_region_held_drew (S:=fun w'=>Hid (w'.heap[R+1]?=some (.cells #[.slice pr nr cr,.int .i64 Qtx.1.1] 162 (0,0)))) (by kernel_rfl) HBX (fun hHeld=>?_)
  refine wpAnyH_take (i:=0) (oi:=⟨some 113,_,_,_,_,_⟩) (v:=.agg zr) rfl (by kernel_rfl) (by kernel_rfl) (by kernel_rfl) (fun _ _ _ h=>h) (Or.inl ⟨by rfl,fun w' hw'=>?_⟩) (by assumption) ?_
  · clear hHeld
    go_simp
  simp only [Act.put,sIB,sCZ,sCS]
  refine wpAnyH_take (i:=1) (oi:=⟨some 114,_,_,_,_,_⟩) (v:=.pointer (some ⟨R+1,0,none⟩)) rfl (by kernel_rfl) (by kernel_rfl) (by kernel_rfl) (fun _ _ _ h=>h) (Or.inl ⟨by rfl,fun w' hw'=>?_⟩) (by assumption) ?_
  · clear hHeld
    go_simp
  simp only [Act.put,sIB,sCZ,sCS]
  refine wpAnyH_take (i:=2) (oi:=⟨some 115,_,_,_,_,_⟩) (v:=.pointer (some ⟨R+1,0,none⟩)) rfl (by kernel_rfl) (by kernel_rfl) (by kernel_rfl) (fun _ _ _ h=>h) (Or.inl ⟨by rfl,fun w' hw'=>?_⟩) (by assumption) ?_
  · clear hHeld
    go_simp
  simp only [Act.put,sIB,sCZ,sCS]
  refine wpAnyH_take (i:=3) (oi:=⟨some 116,_,_,_,_,_⟩) (v:=.pointer (some ⟨R+1,1,none⟩)) rfl (by kernel_rfl) (by kernel_rfl) (by kernel_rfl) (fun _ _ _ h=>h) (Or.inl ⟨by rfl,fun w' hw'=>?_⟩) (by assumption) ?_
  · clear hHeld
    go_simp
  simp only [Act.put,sIB,sCZ,sCS]
  refine wpAnyH_take (i:=4) (oi:=⟨some 117,_,_,_,_,_⟩) (v:=.int .i64 Qtx.1.1) rfl (by kernel_rfl) (by kernel_rfl) (by kernel_rfl) (fun _ _ _ h=>h) (Or.inl ⟨by rfl,fun w' hw'=>?_⟩) (by assumption) ?_
  · have g1:=z0a (j:=1) (v:=.int .i64 Qtx.1.1) hw'.out rfl
    clear hHeld
    go_simp
  simp only [Act.put,sIB,sCZ,sCS]
  generalize w2.drew=Wd at *
  refine wpAnyH_ready (rs:=[5]) (by kernel_rfl) (by simp) (AllReadyH.cons rfl (fun K hK=>?_) AllReadyH.nil)
  rw [if_pos (by rfl)]
  refine wp_store_row 51 _ _ rfl R zr rfl rfl 51 _ HQd.out.res (by kernel_rfl) rfl (z2c rz) ?_
  have HB2:Hid ((Wd.setRow R zr).heap[R+1]?=some (.cells #[.slice pr nr cr,.int .i64 Qtx.1.1] 162 (0,0))):=hid ((setRow_other _ _ _ _ (by omega)).trans HBX.out)
  refine hK.out _ _ HB2 (fun hHeld2=>?_)
  clear hK K hHeld
  have hHeld:=hHeld2
  clear hHeld2
  (try simp only [Act.put,sIB,sCZ,sCS])
  refine wpAnyH_take (i:=6) (oi:=⟨some 3,_,_,_,_,_⟩) (v:=.int .i64 Qtx.1.1) rfl (by kernel_rfl) (by kernel_rfl) (by kernel_rfl) (fun _ _ _ h=>h) (Or.inl ⟨by rfl,fun w' hw'=>?_⟩) (by assumption) ?_
  · clear hHeld
    go_simp
  simp only [Act.put,sIB,sCZ,sCS]
  refine wpAnyH_done (by kernel_rfl) ?_ _
  clear hHeld
  (try simp only [Exit.inBlock,Exit.then])
  go_wp2_with fail
  refine bodyPost_ret (v:=.tuple #[.agg zr,.int .i64 Qtx.1.1]) ?_ rfl HG.out
  exact z0m rfl _ _ R rz _ rfl rfl HRF.out
 have d9:(Qtx.1.1 != 0)=false:=by simp [he9]
 obtain⟨pr,nr,cr,hbx,hpr⟩:=HQ2.out.z.box
 have hln:=(hpr he9).1.len
 rw [he9] at hbx
 have HLN:=hid hln
 have HZ9:Hid (errD DD=0):=hid (HED.out.trans he9)
 have b0:w2.cell? ⟨R+1,0,none⟩=some (.slice pr nr cr):=z0a hbx rfl
 have b1:w2.cell? ⟨R+1,1,none⟩=some (.int .i64 0):=z0a hbx rfl
 clear hbx hpr hln x1
 rw [he9] at d9
 clear he9
 by_cases hnr:0<nr
 case pos =>
  have hd:decide ((0:Int)<(nr:Int))=true:=decide_eq_true (by omega)
  have hdn:decide (0<nr)=true:=decide_eq_true hnr
  have HNR:=hid hnr
  clear hnr
  have HRF:Hid (RB (w2.setRow R (rcs rz)) R rz):=hid (HQ2.out.res.set _)
  have HG:Hid (z0s W (decX Bs) (.returned (.tuple #[.agg zr,.int .i64 8])) (w2.setRow R zr)):=hid (by
   have hp:decX Bs=(8,noX):=by
    have h8:=z4n HZ9.out (by rw [HST.out,HLN.out];exact HNR.out)
    rw [HDX.out,if_pos (by rw [h8];decide),h8]
   rw [hp]
   exact⟨rz,[],[],[],rfl,rfl,rz_m _,below_setRow HQ2.out.below HQ2.out.base zr,z3i _⟩)
  go_wp2_with ((with_reducible refine z0e rz HQ2.out.res ?_ ?_ ?_);rfl;rfl)
  (try simp only [Exit.inBlock,Exit.then])
  refine bodyPost_ret (v:=.tuple #[.agg zr,.int .i64 8]) ?_ rfl HG.out
  exact z0m rfl _ _ R rz _ rfl rfl HRF.out
 have hd:decide ((0:Int)<(nr:Int))=false:=decide_eq_false (by omega)
 have hdn:decide (0<nr)=false:=decide_eq_false hnr
 have HNR:=hid hnr
 clear hnr
 have h0:rdE DD=0:=z5w HZ9.out (by rw [HST.out,HLN.out];exact HNR.out)
 have HDY:Hid (decX Bs=if z1f DD.rx=true then (0,DD.rx) else (8,noX)):=hid (by rw [HDX.out,if_neg (fun h=>h h0)])
 have HMM:=hid ((z1b 5 0 ((Qtx.2:Nat):Int) 0 false 0 0 0 0 0 w2))
 have hokk:=z6d (k:=5) HKO.out (S:=R0.1) (by rw [← HR0.out];exact z0k (S:=(0,Bs)) HBY.out 1)
 rw [HRX.out,← HXX.out] at hokk
 obtain⟨hok,hs1,hs2,hs3⟩:=hokk
 have hgd:=z3p (rm 5 0 ((Qtx.2:Nat):Int) 0 false 0 0 0 0 0) [] [] [] w2 HMM.out hok (z3q HMM.out ⟨hs1,hs2,hs3⟩)
 clear h0 hok hs1 hs2 hs3
 go_wp2_with (first | ((with_reducible refine z0d HQ2.out.x ?_ ?_ ?_);rfl;rfl))
 refine hgd.mono ?_
 rintro e w90 ⟨rfl,hb90⟩
 have HQ90:=hid (HQ2.out.later hb90)
 have HM90:=hid (HMM.out.later hb90)
 clear hb90 hgd b0 b1
 cases hg:z1f ((rm 5 0 ((Qtx.2:Nat):Int) 0 false 0 0 0 0 0).x [] [] [])
 case false =>
  have HRF:Hid (RB (w90.setRow R (rcs rz)) R rz):=hid (HQ90.out.res.set _)
  have HG:Hid (z0s W (decX Bs) (.returned (.tuple #[.agg zr,.int .i64 8])) (w90.setRow R zr)):=hid (by
   have hp:decX Bs=(8,noX):=by
    rw [HDY.out,← HXX.out,if_neg (by rw [hg];decide)]
   rw [hp]
   exact⟨rz,[],[],[],rfl,rfl,rz_m _,below_setRow HQ90.out.below HQ90.out.base zr,z3i _⟩)
  go_wp2_with ((with_reducible refine z0e rz HQ90.out.res ?_ ?_ ?_);rfl;rfl)
  (try simp only [Exit.inBlock,Exit.then])
  refine bodyPost_ret (v:=.tuple #[.agg zr,.int .i64 8]) ?_ rfl HG.out
  exact z0m rfl _ _ R rz _ rfl rfl HRF.out
 have HRF:Hid (RB (w90.setRow R (rcs (rm 5 0 ((Qtx.2:Nat):Int) 0 false 0 0 0 0 0))) R (rm 5 0 ((Qtx.2:Nat):Int) 0 false 0 0 0 0 0)):=hid (HQ90.out.res.set _)
 have HG:Hid (z0s W (decX Bs) (.returned (.tuple #[.agg (rcs (rm 5 0 ((Qtx.2:Nat):Int) 0 false 0 0 0 0 0)),.int .i64 0])) (w90.setRow R (rcs (rm 5 0 ((Qtx.2:Nat):Int) 0 false 0 0 0 0 0)))):=hid (by
  have hp:decX Bs=(0,(rm 5 0 ((Qtx.2:Nat):Int) 0 false 0 0 0 0 0).x [] [] []):=by rw [HDY.out,← HXX.out,if_pos hg]
  rw [hp]
  exact⟨(rm 5 0 ((Qtx.2:Nat):Int) 0 false 0 0 0 0 0),[],[],[],rfl,rfl,z1b _ _ _ _ _ _ _ _ _ _ _,below_setRow HQ90.out.below HQ90.out.base (rcs (rm 5 0 ((Qtx.2:Nat):Int) 0 false 0 0 0 0 0)),q1d _ rfl rfl rfl⟩)
 clear hg
 go_wp2_with (first | ((with_reducible refine z0q HQ90.out.x ?_ ?_);rfl) | ((with_reducible refine z0e (rm 5 0 ((Qtx.2:Nat):Int) 0 false 0 0 0 0 0) HQ90.out.res ?_ ?_ ?_);rfl;rfl))
 (try simp only [Exit.inBlock,Exit.then])
 refine bodyPost_ret (v:=.tuple #[.agg (rcs (rm 5 0 ((Qtx.2:Nat):Int) 0 false 0 0 0 0 0)),.int .i64 0]) ?_ rfl HG.out
 exact z0m rfl _ _ R (rm 5 0 ((Qtx.2:Nat):Int) 0 false 0 0 0 0 0) _ rfl rfl HRF.out
theorem rrec_dec6 (p:Option Addr) (n c:Nat) (Bs:List Nat) (W:World) (hw:Words W) (hS:Sl W p n c Bs) (hcm:c≤maxLen) (hk:(((numR ((0,Bs):St) 1).2:Nat):Int)=6):Calls Tryz.prog 50 #[.slice p n c] W (z0s W (decX Bs)):=by
 obtain⟨R,w00,w0,hR,hw00,hs00,hx00,hw0,hQ0⟩:=z3c p n c Bs W hS hcm
 have HW00:=hid hw00
 have HS00:=hid hs00
 have HX00:=hid hx00
 have HW0:=hid hw0
 have HQ0:=hid hQ0
 have HRE:=hid hR
 have HWD:=hid hw
 have HBY:Hid (∀ y∈Bs,y<256):=hid hS.lt
 clear hw00 hs00 hx00 hw0 hQ0 hR hw hS hcm
 obtain⟨R0,hR0⟩:∃ Q,numR ((0,Bs):St) 1=Q:=⟨_,rfl⟩
 have hn:=z0n HQ0.out.z 1 (by omega)
 have hf:=z1p HQ0.out.z
 have hz0:=q0s (Bs:=Bs) (by rw [hk];rfl)
 rw [hR0] at hz0
 have HZ0:=hid hz0
 clear hz0
 rw [hR0] at hn hf hk
 have HR0:=hid hR0
 have hx0:IntKind.u8.wrap ((R0.2:Nat):Int)=(R0.2:Nat):=z1g hf
 rw [hk] at hn hx0
 have HKK:=hid hk
 clear hf hR0 hk
 go_enter Tryz.func50,Tryz.ntmps50
 go_upto_region 2 with (fail)
 rw [HW00.out,HRE.out]
 go_upto_region 3 with ((try rw [HS00.out]);(with_reducible refine z0e rz HX00.out ?_ ?_ ?_);rfl;rfl;rw [HW0.out])
 go_wp2_with fail
 refine hn.mono ?_
 rintro e y0 ⟨rfl,hz,hc⟩
 have HQb:=hid (HQ0.out.low hz hc)
 clear hz hc hn
 obtain⟨cy,cf⟩:=HQb.out.cx (j:=0) (v:=.int .u8 0) rfl
 go_upto_region 4 with (fail)
 clear cy cf hx0
 have hq:=HQb.out.put 0 (.int .u8 6) (rm 6 0 0 0 false 0 0 0 0 0) rfl
 generalize y0.setCell ⟨R+2,0,none⟩ (.int .u8 6)=w1 at *
 have HQ1:=hid hq
 clear hq HQb HQ0 HW00 HS00 HX00 HW0
 have x1:=HQ1.out.z.err
 rw [HZ0.out] at x1
 have c0:=(HQ1.out.cx (j:=0) (v:=.int .u8 6) rfl).1
 go_wp2_with fail
 clear x1
 have hn:=z0n HQ1.out.z 4 (by omega)
 obtain⟨Qtx,hQtx⟩:∃ Q,numR R0.1 4=Q:=⟨_,rfl⟩
 have hf:=z4i HQ1.out.z
 rw [hQtx] at hn hf
 have hxtx:IntKind.u32.wrap ((Qtx.2:Nat):Int)=(Qtx.2:Nat):=z1w hf
 clear hf
 have HQtx:=hid hQtx
 clear hQtx
 refine hn.mono ?_
 rintro e y2 ⟨rfl,hz,hc⟩
 have HQb:=hid (HQ1.out.low hz hc)
 clear hz hc hn HQ1 c0
 obtain⟨cy,cf⟩:=HQb.out.cx (j:=2) (v:=.int .u32 0) rfl
 go_upto_region 10 with (fail)
 clear cy cf hxtx
 have hq:=HQb.out.put 2 (.int .u32 ((Qtx.2:Nat):Int)) (rm 6 0 ((Qtx.2:Nat):Int) 0 false 0 0 0 0 0) rfl
 generalize y2.setCell ⟨R+2,2,none⟩ (.int .u32 ((Qtx.2:Nat):Int))=w2 at *
 have HQ2:=hid hq
 clear hq HQb
 have c0:=(HQ2.out.cx (j:=0) (v:=.int .u8 6) rfl).1
 go_wp2_with fail
 have hn:=z0n HQ2.out.z 1 (by omega)
 obtain⟨Qka,hQka⟩:∃ Q,numR Qtx.1 1=Q:=⟨_,rfl⟩
 have hf:=z1p HQ2.out.z
 rw [hQka] at hn hf
 have hxka:IntKind.u8.wrap ((Qka.2:Nat):Int)=(Qka.2:Nat):=z1g hf
 clear hf
 have HQka:=hid hQka
 clear hQka
 refine hn.mono ?_
 rintro e y3 ⟨rfl,hz,hc⟩
 have HQb:=hid (HQ2.out.low hz hc)
 clear hz hc hn HQ2 c0
 obtain⟨cy,cf⟩:=HQb.out.cx (j:=5) (v:=.int .u8 0) rfl
 go_upto_region 15 with (fail)
 clear cy cf hxka
 have hq:=HQb.out.put 5 (.int .u8 ((Qka.2:Nat):Int)) (rm 6 0 ((Qtx.2:Nat):Int) 0 false ((Qka.2:Nat):Int) 0 0 0 0) rfl
 generalize y3.setCell ⟨R+2,5,none⟩ (.int .u8 ((Qka.2:Nat):Int))=w3 at *
 have HQ3:=hid hq
 clear hq HQb
 have c0:=(HQ3.out.cx (j:=0) (v:=.int .u8 6) rfl).1
 go_wp2_with fail
 have hn:=z0n HQ3.out.z 1 (by omega)
 obtain⟨Qkb,hQkb⟩:∃ Q,numR Qka.1 1=Q:=⟨_,rfl⟩
 have hf:=z1p HQ3.out.z
 rw [hQkb] at hn hf
 have hxkb:IntKind.u8.wrap ((Qkb.2:Nat):Int)=(Qkb.2:Nat):=z1g hf
 clear hf
 have HQkb:=hid hQkb
 clear hQkb
 refine hn.mono ?_
 rintro e y4 ⟨rfl,hz,hc⟩
 have HQb:=hid (HQ3.out.low hz hc)
 clear hz hc hn HQ3 c0
 obtain⟨cy,cf⟩:=HQb.out.cx (j:=6) (v:=.int .u8 0) rfl
 go_upto_region 16 with (fail)
 clear cy cf hxkb
 have hq:=HQb.out.put 6 (.int .u8 ((Qkb.2:Nat):Int)) (rm 6 0 ((Qtx.2:Nat):Int) 0 false ((Qka.2:Nat):Int) ((Qkb.2:Nat):Int) 0 0 0) rfl
 generalize y4.setCell ⟨R+2,6,none⟩ (.int .u8 ((Qkb.2:Nat):Int))=w4 at *
 have HQ4:=hid hq
 clear hq HQb
 have c0:=(HQ4.out.cx (j:=0) (v:=.int .u8 6) rfl).1
 go_wp2_with fail
 have hn:=z0n HQ4.out.z 1 (by omega)
 obtain⟨Qkc,hQkc⟩:∃ Q,numR Qkb.1 1=Q:=⟨_,rfl⟩
 have hf:=z1p HQ4.out.z
 rw [hQkc] at hn hf
 have hxkc:IntKind.u8.wrap ((Qkc.2:Nat):Int)=(Qkc.2:Nat):=z1g hf
 clear hf
 have HQkc:=hid hQkc
 clear hQkc
 refine hn.mono ?_
 rintro e y5 ⟨rfl,hz,hc⟩
 have HQb:=hid (HQ4.out.low hz hc)
 clear hz hc hn HQ4 c0
 obtain⟨cy,cf⟩:=HQb.out.cx (j:=7) (v:=.int .u8 0) rfl
 go_upto_region 17 with (fail)
 clear cy cf hxkc
 have hq:=HQb.out.put 7 (.int .u8 ((Qkc.2:Nat):Int)) (rm 6 0 ((Qtx.2:Nat):Int) 0 false ((Qka.2:Nat):Int) ((Qkb.2:Nat):Int) ((Qkc.2:Nat):Int) 0 0) rfl
 generalize y5.setCell ⟨R+2,7,none⟩ (.int .u8 ((Qkc.2:Nat):Int))=w5 at *
 have HQ5:=hid hq
 clear hq HQb
 have c0:=(HQ5.out.cx (j:=0) (v:=.int .u8 6) rfl).1
 go_wp2_with fail
 have hn:=z5m HQ5.out.z
 obtain⟨Qd,hQd⟩:∃ Q,numR Qkc.1 8=Q:=⟨_,rfl⟩
 have hf:=z8a HQ5.out.z
 rw [hQd] at hn hf
 rw [z5v _ hf] at hn
 clear hf
 have HQd:=hid hQd
 clear hQd
 refine hn.mono ?_
 rintro e y6 ⟨rfl,hz,hc⟩
 have HQb:=hid (HQ5.out.low hz hc)
 clear hz hc hn HQ5 c0
 obtain⟨cy,cf⟩:=HQb.out.cx (j:=8) (v:=.int .i64 0) rfl
 go_upto_region 18 with (fail)
 clear cy cf
 have hq:=HQb.out.put 8 (.int .i64 (sgn Qd.2)) (rm 6 0 ((Qtx.2:Nat):Int) 0 false ((Qka.2:Nat):Int) ((Qkb.2:Nat):Int) ((Qkc.2:Nat):Int) (sgn Qd.2) 0) rfl
 generalize y6.setCell ⟨R+2,8,none⟩ (.int .i64 (sgn Qd.2))=w6 at *
 have HQ6:=hid hq
 clear hq HQb
 have c0:=(HQ6.out.cx (j:=0) (v:=.int .u8 6) rfl).1
 obtain⟨DD,hDD⟩:∃ D:Rdd,D=⟨Qd.1,{ noX with k:=6,sg:=0,tx:=((Qtx.2:Nat):Int),st:=0,cp:=false,key:=(((Qka.2:Nat):Int),((Qkb.2:Nat):Int),((Qkc.2:Nat):Int)),d:=(sgn Qd.2),o:=0 },0⟩:=⟨_,rfl⟩
 have HRX:Hid (rdX 6 R0.1=DD):=hid (by rw [hDD];simp [rdX,rd3,keyR,HQtx.out,HQka.out,HQkb.out,HQkc.out,HQd.out,noX])
 have HED:Hid (errD DD=Qd.1.1):=hid (by rw [hDD];rfl)
 have HST:Hid (DD.st.2=Qd.1.2):=hid (by rw [hDD])
 have HXX:Hid ((rm 6 0 ((Qtx.2:Nat):Int) 0 false ((Qka.2:Nat):Int) ((Qkb.2:Nat):Int) ((Qkc.2:Nat):Int) (sgn Qd.2) 0).x [] [] []=DD.rx):=hid (by rw [hDD];rfl)
 clear hDD
 have HKO:Hid (kOk 6=true):=hid rfl
 have HDX:=hid (z4q HR0.out HKK.out HKO.out HRX.out)
 have x1:=HQ6.out.z.err
 by_cases he9:Qd.1.1=0
 case neg =>
  have d9:(Qd.1.1 != 0)=true:=by simpa using he9
  have hq9:Hid (Qd.1.1≠0):=hid he9
  obtain⟨pr,nr,cr,hbx,hpr⟩:=HQ6.out.z.box
  have HQd:=hid (HQ6.out.later (show Below w6.heap.size w6 w6.drew from (Below.refl _ _).drew))
  have HBX:Hid (w6.drew.heap[R+1]?=some (.cells #[.slice pr nr cr,.int .i64 Qd.1.1] 162 (0,0))):=hid hbx
  clear he9 hbx hpr
  have HRF:Hid (RB (w6.drew.setRow R (rcs rz)) R rz):=hid (HQd.out.res.set _)
  have HG:Hid (z0s W (decX Bs) (.returned (.tuple #[.agg zr,.int .i64 Qd.1.1])) (w6.drew.setRow R zr)):=hid (by
   have hp:decX Bs=(Qd.1.1,noX):=by
    rw [HDX.out,if_pos (by rw [z2r (by rw [HED.out];exact hq9.out),HED.out];exact hq9.out),z2r (by rw [HED.out];exact hq9.out),HED.out]
   rw [hp]
   exact⟨rz,[],[],[],rfl,rfl,rz_m _,below_setRow HQd.out.below HQd.out.base zr,z3i _⟩)
  go_wp2_with fail
  refine wp_region_held_drew (S:=fun w'=>Hid (w'.heap[R+1]?=some (.cells #[.slice pr nr cr,.int .i64 Qd.1.1] 162 (0,0)))) (by kernel_rfl) HBX (fun hHeld=>?_)
  refine wpAnyH_take (i:=0) (oi:=⟨some 113,_,_,_,_,_⟩) (v:=.agg zr) rfl (by kernel_rfl) (by kernel_rfl) (by kernel_rfl) (fun _ _ _ h=>h) (Or.inl ⟨by rfl,fun w' hw'=>?_⟩) (by assumption) ?_
  · clear hHeld
    go_simp
  simp only [Act.put,sIB,sCZ,sCS]
  refine wpAnyH_take (i:=1) (oi:=⟨some 114,_,_,_,_,_⟩) (v:=.pointer (some ⟨R+1,0,none⟩)) rfl (by kernel_rfl) (by kernel_rfl) (by kernel_rfl) (fun _ _ _ h=>h) (Or.inl ⟨by rfl,fun w' hw'=>?_⟩) (by assumption) ?_
  · clear hHeld
    go_simp
  simp only [Act.put,sIB,sCZ,sCS]
  refine wpAnyH_take (i:=2) (oi:=⟨some 115,_,_,_,_,_⟩) (v:=.pointer (some ⟨R+1,0,none⟩)) rfl (by kernel_rfl) (by kernel_rfl) (by kernel_rfl) (fun _ _ _ h=>h) (Or.inl ⟨by rfl,fun w' hw'=>?_⟩) (by assumption) ?_
  · clear hHeld
    go_simp
  simp only [Act.put,sIB,sCZ,sCS]
  refine wpAnyH_take (i:=3) (oi:=⟨some 116,_,_,_,_,_⟩) (v:=.pointer (some ⟨R+1,1,none⟩)) rfl (by kernel_rfl) (by kernel_rfl) (by kernel_rfl) (fun _ _ _ h=>h) (Or.inl ⟨by rfl,fun w' hw'=>?_⟩) (by assumption) ?_
  · clear hHeld
    go_simp
  simp only [Act.put,sIB,sCZ,sCS]
  refine wpAnyH_take (i:=4) (oi:=⟨some 117,_,_,_,_,_⟩) (v:=.int .i64 Qd.1.1) rfl (by kernel_rfl) (by kernel_rfl) (by kernel_rfl) (fun _ _ _ h=>h) (Or.inl ⟨by rfl,fun w' hw'=>?_⟩) (by assumption) ?_
  · have g1:=z0a (j:=1) (v:=.int .i64 Qd.1.1) hw'.out rfl
    clear hHeld
    go_simp
  simp only [Act.put,sIB,sCZ,sCS]
  generalize w6.drew=Wd at *
  refine wpAnyH_ready (rs:=[5]) (by kernel_rfl) (by simp) (AllReadyH.cons rfl (fun K hK=>?_) AllReadyH.nil)
  rw [if_pos (by rfl)]
  refine wp_store_row 51 _ _ rfl R zr rfl rfl 51 _ HQd.out.res (by kernel_rfl) rfl (z2c rz) ?_
  have HB2:Hid ((Wd.setRow R zr).heap[R+1]?=some (.cells #[.slice pr nr cr,.int .i64 Qd.1.1] 162 (0,0))):=hid ((setRow_other _ _ _ _ (by omega)).trans HBX.out)
  refine hK.out _ _ HB2 (fun hHeld2=>?_)
  clear hK K hHeld
  have hHeld:=hHeld2
  clear hHeld2
  (try simp only [Act.put,sIB,sCZ,sCS])
  refine wpAnyH_take (i:=6) (oi:=⟨some 3,_,_,_,_,_⟩) (v:=.int .i64 Qd.1.1) rfl (by kernel_rfl) (by kernel_rfl) (by kernel_rfl) (fun _ _ _ h=>h) (Or.inl ⟨by rfl,fun w' hw'=>?_⟩) (by assumption) ?_
  · clear hHeld
    go_simp
  simp only [Act.put,sIB,sCZ,sCS]
  refine wpAnyH_done (by kernel_rfl) ?_ _
  clear hHeld
  (try simp only [Exit.inBlock,Exit.then])
  go_wp2_with fail
  refine bodyPost_ret (v:=.tuple #[.agg zr,.int .i64 Qd.1.1]) ?_ rfl HG.out
  exact z0m rfl _ _ R rz _ rfl rfl HRF.out
 have d9:(Qd.1.1 != 0)=false:=by simp [he9]
 obtain⟨pr,nr,cr,hbx,hpr⟩:=HQ6.out.z.box
 have hln:=(hpr he9).1.len
 rw [he9] at hbx
 have HLN:=hid hln
 have HZ9:Hid (errD DD=0):=hid (HED.out.trans he9)
 have b0:w6.cell? ⟨R+1,0,none⟩=some (.slice pr nr cr):=z0a hbx rfl
 have b1:w6.cell? ⟨R+1,1,none⟩=some (.int .i64 0):=z0a hbx rfl
 clear hbx hpr hln x1
 rw [he9] at d9
 clear he9
 by_cases hnr:0<nr
 case pos =>
  have hd:decide ((0:Int)<(nr:Int))=true:=decide_eq_true (by omega)
  have hdn:decide (0<nr)=true:=decide_eq_true hnr
  have HNR:=hid hnr
  clear hnr
  have HRF:Hid (RB (w6.setRow R (rcs rz)) R rz):=hid (HQ6.out.res.set _)
  have HG:Hid (z0s W (decX Bs) (.returned (.tuple #[.agg zr,.int .i64 8])) (w6.setRow R zr)):=hid (by
   have hp:decX Bs=(8,noX):=by
    have h8:=z4n HZ9.out (by rw [HST.out,HLN.out];exact HNR.out)
    rw [HDX.out,if_pos (by rw [h8];decide),h8]
   rw [hp]
   exact⟨rz,[],[],[],rfl,rfl,rz_m _,below_setRow HQ6.out.below HQ6.out.base zr,z3i _⟩)
  go_wp2_with ((with_reducible refine z0e rz HQ6.out.res ?_ ?_ ?_);rfl;rfl)
  (try simp only [Exit.inBlock,Exit.then])
  refine bodyPost_ret (v:=.tuple #[.agg zr,.int .i64 8]) ?_ rfl HG.out
  exact z0m rfl _ _ R rz _ rfl rfl HRF.out
 have hd:decide ((0:Int)<(nr:Int))=false:=decide_eq_false (by omega)
 have hdn:decide (0<nr)=false:=decide_eq_false hnr
 have HNR:=hid hnr
 clear hnr
 have h0:rdE DD=0:=z5w HZ9.out (by rw [HST.out,HLN.out];exact HNR.out)
 have HDY:Hid (decX Bs=if z1f DD.rx=true then (0,DD.rx) else (8,noX)):=hid (by rw [HDX.out,if_neg (fun h=>h h0)])
 have HMM:=hid ((z1b 6 0 ((Qtx.2:Nat):Int) 0 false ((Qka.2:Nat):Int) ((Qkb.2:Nat):Int) ((Qkc.2:Nat):Int) (sgn Qd.2) 0 w6))
 have hokk:=z6d (k:=6) HKO.out (S:=R0.1) (by rw [← HR0.out];exact z0k (S:=(0,Bs)) HBY.out 1)
 rw [HRX.out,← HXX.out] at hokk
 obtain⟨hok,hs1,hs2,hs3⟩:=hokk
 have hgd:=z3p (rm 6 0 ((Qtx.2:Nat):Int) 0 false ((Qka.2:Nat):Int) ((Qkb.2:Nat):Int) ((Qkc.2:Nat):Int) (sgn Qd.2) 0) [] [] [] w6 HMM.out hok (z3q HMM.out ⟨hs1,hs2,hs3⟩)
 clear h0 hok hs1 hs2 hs3
 go_wp2_with (first | ((with_reducible refine z0d HQ6.out.x ?_ ?_ ?_);rfl;rfl))
 refine hgd.mono ?_
 rintro e w90 ⟨rfl,hb90⟩
 have HQ90:=hid (HQ6.out.later hb90)
 have HM90:=hid (HMM.out.later hb90)
 clear hb90 hgd b0 b1
 cases hg:z1f ((rm 6 0 ((Qtx.2:Nat):Int) 0 false ((Qka.2:Nat):Int) ((Qkb.2:Nat):Int) ((Qkc.2:Nat):Int) (sgn Qd.2) 0).x [] [] [])
 case false =>
  have HRF:Hid (RB (w90.setRow R (rcs rz)) R rz):=hid (HQ90.out.res.set _)
  have HG:Hid (z0s W (decX Bs) (.returned (.tuple #[.agg zr,.int .i64 8])) (w90.setRow R zr)):=hid (by
   have hp:decX Bs=(8,noX):=by
    rw [HDY.out,← HXX.out,if_neg (by rw [hg];decide)]
   rw [hp]
   exact⟨rz,[],[],[],rfl,rfl,rz_m _,below_setRow HQ90.out.below HQ90.out.base zr,z3i _⟩)
  go_wp2_with ((with_reducible refine z0e rz HQ90.out.res ?_ ?_ ?_);rfl;rfl)
  (try simp only [Exit.inBlock,Exit.then])
  refine bodyPost_ret (v:=.tuple #[.agg zr,.int .i64 8]) ?_ rfl HG.out
  exact z0m rfl _ _ R rz _ rfl rfl HRF.out
 have HRF:Hid (RB (w90.setRow R (rcs (rm 6 0 ((Qtx.2:Nat):Int) 0 false ((Qka.2:Nat):Int) ((Qkb.2:Nat):Int) ((Qkc.2:Nat):Int) (sgn Qd.2) 0))) R (rm 6 0 ((Qtx.2:Nat):Int) 0 false ((Qka.2:Nat):Int) ((Qkb.2:Nat):Int) ((Qkc.2:Nat):Int) (sgn Qd.2) 0)):=hid (HQ90.out.res.set _)
 have HG:Hid (z0s W (decX Bs) (.returned (.tuple #[.agg (rcs (rm 6 0 ((Qtx.2:Nat):Int) 0 false ((Qka.2:Nat):Int) ((Qkb.2:Nat):Int) ((Qkc.2:Nat):Int) (sgn Qd.2) 0)),.int .i64 0])) (w90.setRow R (rcs (rm 6 0 ((Qtx.2:Nat):Int) 0 false ((Qka.2:Nat):Int) ((Qkb.2:Nat):Int) ((Qkc.2:Nat):Int) (sgn Qd.2) 0)))):=hid (by
  have hp:decX Bs=(0,(rm 6 0 ((Qtx.2:Nat):Int) 0 false ((Qka.2:Nat):Int) ((Qkb.2:Nat):Int) ((Qkc.2:Nat):Int) (sgn Qd.2) 0).x [] [] []):=by rw [HDY.out,← HXX.out,if_pos hg]
  rw [hp]
  exact⟨(rm 6 0 ((Qtx.2:Nat):Int) 0 false ((Qka.2:Nat):Int) ((Qkb.2:Nat):Int) ((Qkc.2:Nat):Int) (sgn Qd.2) 0),[],[],[],rfl,rfl,z1b _ _ _ _ _ _ _ _ _ _ _,below_setRow HQ90.out.below HQ90.out.base (rcs (rm 6 0 ((Qtx.2:Nat):Int) 0 false ((Qka.2:Nat):Int) ((Qkb.2:Nat):Int) ((Qkc.2:Nat):Int) (sgn Qd.2) 0)),q1d _ rfl rfl rfl⟩)
 clear hg
 go_wp2_with (first | ((with_reducible refine z0q HQ90.out.x ?_ ?_);rfl) | ((with_reducible refine z0e (rm 6 0 ((Qtx.2:Nat):Int) 0 false ((Qka.2:Nat):Int) ((Qkb.2:Nat):Int) ((Qkc.2:Nat):Int) (sgn Qd.2) 0) HQ90.out.res ?_ ?_ ?_);rfl;rfl))
 (try simp only [Exit.inBlock,Exit.then])
 refine bodyPost_ret (v:=.tuple #[.agg (rcs (rm 6 0 ((Qtx.2:Nat):Int) 0 false ((Qka.2:Nat):Int) ((Qkb.2:Nat):Int) ((Qkc.2:Nat):Int) (sgn Qd.2) 0)),.int .i64 0]) ?_ rfl HG.out
 exact z0m rfl _ _ R (rm 6 0 ((Qtx.2:Nat):Int) 0 false ((Qka.2:Nat):Int) ((Qkb.2:Nat):Int) ((Qkc.2:Nat):Int) (sgn Qd.2) 0) _ rfl rfl HRF.out
theorem rrec_dec7 (p:Option Addr) (n c:Nat) (Bs:List Nat) (W:World) (hw:Words W) (hS:Sl W p n c Bs) (hcm:c≤maxLen) (hk:(((numR ((0,Bs):St) 1).2:Nat):Int)=7):Calls Tryz.prog 50 #[.slice p n c] W (z0s W (decX Bs)):=by
 obtain⟨R,w00,w0,hR,hw00,hs00,hx00,hw0,hQ0⟩:=z3c p n c Bs W hS hcm
 have HW00:=hid hw00
 have HS00:=hid hs00
 have HX00:=hid hx00
 have HW0:=hid hw0
 have HQ0:=hid hQ0
 have HRE:=hid hR
 have HWD:=hid hw
 have HBY:Hid (∀ y∈Bs,y<256):=hid hS.lt
 clear hw00 hs00 hx00 hw0 hQ0 hR hw hS hcm
 obtain⟨R0,hR0⟩:∃ Q,numR ((0,Bs):St) 1=Q:=⟨_,rfl⟩
 have hn:=z0n HQ0.out.z 1 (by omega)
 have hf:=z1p HQ0.out.z
 have hz0:=q0s (Bs:=Bs) (by rw [hk];rfl)
 rw [hR0] at hz0
 have HZ0:=hid hz0
 clear hz0
 rw [hR0] at hn hf hk
 have HR0:=hid hR0
 have hx0:IntKind.u8.wrap ((R0.2:Nat):Int)=(R0.2:Nat):=z1g hf
 rw [hk] at hn hx0
 have HKK:=hid hk
 clear hf hR0 hk
 go_enter Tryz.func50,Tryz.ntmps50
 go_upto_region 2 with (fail)
 rw [HW00.out,HRE.out]
 go_upto_region 3 with ((try rw [HS00.out]);(with_reducible refine z0e rz HX00.out ?_ ?_ ?_);rfl;rfl;rw [HW0.out])
 go_wp2_with fail
 refine hn.mono ?_
 rintro e y0 ⟨rfl,hz,hc⟩
 have HQb:=hid (HQ0.out.low hz hc)
 clear hz hc hn
 obtain⟨cy,cf⟩:=HQb.out.cx (j:=0) (v:=.int .u8 0) rfl
 go_upto_region 4 with (fail)
 clear cy cf hx0
 have hq:=HQb.out.put 0 (.int .u8 7) (rm 7 0 0 0 false 0 0 0 0 0) rfl
 generalize y0.setCell ⟨R+2,0,none⟩ (.int .u8 7)=w1 at *
 have HQ1:=hid hq
 clear hq HQb HQ0 HW00 HS00 HX00 HW0
 have x1:=HQ1.out.z.err
 rw [HZ0.out] at x1
 have c0:=(HQ1.out.cx (j:=0) (v:=.int .u8 7) rfl).1
 go_wp2_with fail
 clear x1
 have hn:=z0n HQ1.out.z 4 (by omega)
 obtain⟨Qtx,hQtx⟩:∃ Q,numR R0.1 4=Q:=⟨_,rfl⟩
 have hf:=z4i HQ1.out.z
 rw [hQtx] at hn hf
 have hxtx:IntKind.u32.wrap ((Qtx.2:Nat):Int)=(Qtx.2:Nat):=z1w hf
 clear hf
 have HQtx:=hid hQtx
 clear hQtx
 refine hn.mono ?_
 rintro e y2 ⟨rfl,hz,hc⟩
 have HQb:=hid (HQ1.out.low hz hc)
 clear hz hc hn HQ1 c0
 obtain⟨cy,cf⟩:=HQb.out.cx (j:=2) (v:=.int .u32 0) rfl
 go_upto_region 10 with (fail)
 clear cy cf hxtx
 have hq:=HQb.out.put 2 (.int .u32 ((Qtx.2:Nat):Int)) (rm 7 0 ((Qtx.2:Nat):Int) 0 false 0 0 0 0 0) rfl
 generalize y2.setCell ⟨R+2,2,none⟩ (.int .u32 ((Qtx.2:Nat):Int))=w2 at *
 have HQ2:=hid hq
 clear hq HQb
 have c0:=(HQ2.out.cx (j:=0) (v:=.int .u8 7) rfl).1
 obtain⟨DD,hDD⟩:∃ D:Rdd,D=⟨Qtx.1,{ noX with k:=7,sg:=0,tx:=((Qtx.2:Nat):Int),st:=0,cp:=false,key:=(0,0,0),d:=0,o:=0 },0⟩:=⟨_,rfl⟩
 have HRX:Hid (rdX 7 R0.1=DD):=hid (by rw [hDD];simp [rdX,rd4,keyR,HQtx.out,noX])
 have HED:Hid (errD DD=Qtx.1.1):=hid (by rw [hDD];rfl)
 have HST:Hid (DD.st.2=Qtx.1.2):=hid (by rw [hDD])
 have HXX:Hid ((rm 7 0 ((Qtx.2:Nat):Int) 0 false 0 0 0 0 0).x [] [] []=DD.rx):=hid (by rw [hDD];rfl)
 clear hDD
 have HKO:Hid (kOk 7=true):=hid rfl
 have HDX:=hid (z4q HR0.out HKK.out HKO.out HRX.out)
 have x1:=HQ2.out.z.err
 by_cases he9:Qtx.1.1=0
 case neg =>
  have d9:(Qtx.1.1 != 0)=true:=by simpa using he9
  have hq9:Hid (Qtx.1.1≠0):=hid he9
  obtain⟨pr,nr,cr,hbx,hpr⟩:=HQ2.out.z.box
  have HQd:=hid (HQ2.out.later (show Below w2.heap.size w2 w2.drew from (Below.refl _ _).drew))
  have HBX:Hid (w2.drew.heap[R+1]?=some (.cells #[.slice pr nr cr,.int .i64 Qtx.1.1] 162 (0,0))):=hid hbx
  clear he9 hbx hpr
  have HRF:Hid (RB (w2.drew.setRow R (rcs rz)) R rz):=hid (HQd.out.res.set _)
  have HG:Hid (z0s W (decX Bs) (.returned (.tuple #[.agg zr,.int .i64 Qtx.1.1])) (w2.drew.setRow R zr)):=hid (by
   have hp:decX Bs=(Qtx.1.1,noX):=by
    rw [HDX.out,if_pos (by rw [z2r (by rw [HED.out];exact hq9.out),HED.out];exact hq9.out),z2r (by rw [HED.out];exact hq9.out),HED.out]
   rw [hp]
   exact⟨rz,[],[],[],rfl,rfl,rz_m _,below_setRow HQd.out.below HQd.out.base zr,z3i _⟩)
  go_wp2_with fail
  refine wp_region_held_drew (S:=fun w'=>Hid (w'.heap[R+1]?=some (.cells #[.slice pr nr cr,.int .i64 Qtx.1.1] 162 (0,0)))) (by kernel_rfl) HBX (fun hHeld=>?_)
  refine wpAnyH_take (i:=0) (oi:=⟨some 113,_,_,_,_,_⟩) (v:=.agg zr) rfl (by kernel_rfl) (by kernel_rfl) (by kernel_rfl) (fun _ _ _ h=>h) (Or.inl ⟨by rfl,fun w' hw'=>?_⟩) (by assumption) ?_
  · clear hHeld
    go_simp
  simp only [Act.put,sIB,sCZ,sCS]
  refine wpAnyH_take (i:=1) (oi:=⟨some 114,_,_,_,_,_⟩) (v:=.pointer (some ⟨R+1,0,none⟩)) rfl (by kernel_rfl) (by kernel_rfl) (by kernel_rfl) (fun _ _ _ h=>h) (Or.inl ⟨by rfl,fun w' hw'=>?_⟩) (by assumption) ?_
  · clear hHeld
    go_simp
  simp only [Act.put,sIB,sCZ,sCS]
  refine wpAnyH_take (i:=2) (oi:=⟨some 115,_,_,_,_,_⟩) (v:=.pointer (some ⟨R+1,0,none⟩)) rfl (by kernel_rfl) (by kernel_rfl) (by kernel_rfl) (fun _ _ _ h=>h) (Or.inl ⟨by rfl,fun w' hw'=>?_⟩) (by assumption) ?_
  · clear hHeld
    go_simp
  simp only [Act.put,sIB,sCZ,sCS]
  refine wpAnyH_take (i:=3) (oi:=⟨some 116,_,_,_,_,_⟩) (v:=.pointer (some ⟨R+1,1,none⟩)) rfl (by kernel_rfl) (by kernel_rfl) (by kernel_rfl) (fun _ _ _ h=>h) (Or.inl ⟨by rfl,fun w' hw'=>?_⟩) (by assumption) ?_
  · clear hHeld
    go_simp
  simp only [Act.put,sIB,sCZ,sCS]
  refine wpAnyH_take (i:=4) (oi:=⟨some 117,_,_,_,_,_⟩) (v:=.int .i64 Qtx.1.1) rfl (by kernel_rfl) (by kernel_rfl) (by kernel_rfl) (fun _ _ _ h=>h) (Or.inl ⟨by rfl,fun w' hw'=>?_⟩) (by assumption) ?_
  · have g1:=z0a (j:=1) (v:=.int .i64 Qtx.1.1) hw'.out rfl
    clear hHeld
    go_simp
  simp only [Act.put,sIB,sCZ,sCS]
  generalize w2.drew=Wd at *
  refine wpAnyH_ready (rs:=[5]) (by kernel_rfl) (by simp) (AllReadyH.cons rfl (fun K hK=>?_) AllReadyH.nil)
  rw [if_pos (by rfl)]
  refine wp_store_row 51 _ _ rfl R zr rfl rfl 51 _ HQd.out.res (by kernel_rfl) rfl (z2c rz) ?_
  have HB2:Hid ((Wd.setRow R zr).heap[R+1]?=some (.cells #[.slice pr nr cr,.int .i64 Qtx.1.1] 162 (0,0))):=hid ((setRow_other _ _ _ _ (by omega)).trans HBX.out)
  refine hK.out _ _ HB2 (fun hHeld2=>?_)
  clear hK K hHeld
  have hHeld:=hHeld2
  clear hHeld2
  (try simp only [Act.put,sIB,sCZ,sCS])
  refine wpAnyH_take (i:=6) (oi:=⟨some 3,_,_,_,_,_⟩) (v:=.int .i64 Qtx.1.1) rfl (by kernel_rfl) (by kernel_rfl) (by kernel_rfl) (fun _ _ _ h=>h) (Or.inl ⟨by rfl,fun w' hw'=>?_⟩) (by assumption) ?_
  · clear hHeld
    go_simp
  simp only [Act.put,sIB,sCZ,sCS]
  refine wpAnyH_done (by kernel_rfl) ?_ _
  clear hHeld
  (try simp only [Exit.inBlock,Exit.then])
  go_wp2_with fail
  refine bodyPost_ret (v:=.tuple #[.agg zr,.int .i64 Qtx.1.1]) ?_ rfl HG.out
  exact z0m rfl _ _ R rz _ rfl rfl HRF.out
 have d9:(Qtx.1.1 != 0)=false:=by simp [he9]
 obtain⟨pr,nr,cr,hbx,hpr⟩:=HQ2.out.z.box
 have hln:=(hpr he9).1.len
 rw [he9] at hbx
 have HLN:=hid hln
 have HZ9:Hid (errD DD=0):=hid (HED.out.trans he9)
 have b0:w2.cell? ⟨R+1,0,none⟩=some (.slice pr nr cr):=z0a hbx rfl
 have b1:w2.cell? ⟨R+1,1,none⟩=some (.int .i64 0):=z0a hbx rfl
 clear hbx hpr hln x1
 rw [he9] at d9
 clear he9
 by_cases hnr:0<nr
 case pos =>
  have hd:decide ((0:Int)<(nr:Int))=true:=decide_eq_true (by omega)
  have hdn:decide (0<nr)=true:=decide_eq_true hnr
  have HNR:=hid hnr
  clear hnr
  have HRF:Hid (RB (w2.setRow R (rcs rz)) R rz):=hid (HQ2.out.res.set _)
  have HG:Hid (z0s W (decX Bs) (.returned (.tuple #[.agg zr,.int .i64 8])) (w2.setRow R zr)):=hid (by
   have hp:decX Bs=(8,noX):=by
    have h8:=z4n HZ9.out (by rw [HST.out,HLN.out];exact HNR.out)
    rw [HDX.out,if_pos (by rw [h8];decide),h8]
   rw [hp]
   exact⟨rz,[],[],[],rfl,rfl,rz_m _,below_setRow HQ2.out.below HQ2.out.base zr,z3i _⟩)
  go_wp2_with ((with_reducible refine z0e rz HQ2.out.res ?_ ?_ ?_);rfl;rfl)
  (try simp only [Exit.inBlock,Exit.then])
  refine bodyPost_ret (v:=.tuple #[.agg zr,.int .i64 8]) ?_ rfl HG.out
  exact z0m rfl _ _ R rz _ rfl rfl HRF.out
 have hd:decide ((0:Int)<(nr:Int))=false:=decide_eq_false (by omega)
 have hdn:decide (0<nr)=false:=decide_eq_false hnr
 have HNR:=hid hnr
 clear hnr
 have h0:rdE DD=0:=z5w HZ9.out (by rw [HST.out,HLN.out];exact HNR.out)
 have HDY:Hid (decX Bs=if z1f DD.rx=true then (0,DD.rx) else (8,noX)):=hid (by rw [HDX.out,if_neg (fun h=>h h0)])
 have HMM:=hid ((z1b 7 0 ((Qtx.2:Nat):Int) 0 false 0 0 0 0 0 w2))
 have hokk:=z6d (k:=7) HKO.out (S:=R0.1) (by rw [← HR0.out];exact z0k (S:=(0,Bs)) HBY.out 1)
 rw [HRX.out,← HXX.out] at hokk
 obtain⟨hok,hs1,hs2,hs3⟩:=hokk
 have hgd:=z3p (rm 7 0 ((Qtx.2:Nat):Int) 0 false 0 0 0 0 0) [] [] [] w2 HMM.out hok (z3q HMM.out ⟨hs1,hs2,hs3⟩)
 clear h0 hok hs1 hs2 hs3
 go_wp2_with (first | ((with_reducible refine z0d HQ2.out.x ?_ ?_ ?_);rfl;rfl))
 refine hgd.mono ?_
 rintro e w90 ⟨rfl,hb90⟩
 have HQ90:=hid (HQ2.out.later hb90)
 have HM90:=hid (HMM.out.later hb90)
 clear hb90 hgd b0 b1
 cases hg:z1f ((rm 7 0 ((Qtx.2:Nat):Int) 0 false 0 0 0 0 0).x [] [] [])
 case false =>
  have HRF:Hid (RB (w90.setRow R (rcs rz)) R rz):=hid (HQ90.out.res.set _)
  have HG:Hid (z0s W (decX Bs) (.returned (.tuple #[.agg zr,.int .i64 8])) (w90.setRow R zr)):=hid (by
   have hp:decX Bs=(8,noX):=by
    rw [HDY.out,← HXX.out,if_neg (by rw [hg];decide)]
   rw [hp]
   exact⟨rz,[],[],[],rfl,rfl,rz_m _,below_setRow HQ90.out.below HQ90.out.base zr,z3i _⟩)
  go_wp2_with ((with_reducible refine z0e rz HQ90.out.res ?_ ?_ ?_);rfl;rfl)
  (try simp only [Exit.inBlock,Exit.then])
  refine bodyPost_ret (v:=.tuple #[.agg zr,.int .i64 8]) ?_ rfl HG.out
  exact z0m rfl _ _ R rz _ rfl rfl HRF.out
 have HRF:Hid (RB (w90.setRow R (rcs (rm 7 0 ((Qtx.2:Nat):Int) 0 false 0 0 0 0 0))) R (rm 7 0 ((Qtx.2:Nat):Int) 0 false 0 0 0 0 0)):=hid (HQ90.out.res.set _)
 have HG:Hid (z0s W (decX Bs) (.returned (.tuple #[.agg (rcs (rm 7 0 ((Qtx.2:Nat):Int) 0 false 0 0 0 0 0)),.int .i64 0])) (w90.setRow R (rcs (rm 7 0 ((Qtx.2:Nat):Int) 0 false 0 0 0 0 0)))):=hid (by
  have hp:decX Bs=(0,(rm 7 0 ((Qtx.2:Nat):Int) 0 false 0 0 0 0 0).x [] [] []):=by rw [HDY.out,← HXX.out,if_pos hg]
  rw [hp]
  exact⟨(rm 7 0 ((Qtx.2:Nat):Int) 0 false 0 0 0 0 0),[],[],[],rfl,rfl,z1b _ _ _ _ _ _ _ _ _ _ _,below_setRow HQ90.out.below HQ90.out.base (rcs (rm 7 0 ((Qtx.2:Nat):Int) 0 false 0 0 0 0 0)),q1d _ rfl rfl rfl⟩)
 clear hg
 go_wp2_with (first | ((with_reducible refine z0q HQ90.out.x ?_ ?_);rfl) | ((with_reducible refine z0e (rm 7 0 ((Qtx.2:Nat):Int) 0 false 0 0 0 0 0) HQ90.out.res ?_ ?_ ?_);rfl;rfl))
 (try simp only [Exit.inBlock,Exit.then])
 refine bodyPost_ret (v:=.tuple #[.agg (rcs (rm 7 0 ((Qtx.2:Nat):Int) 0 false 0 0 0 0 0)),.int .i64 0]) ?_ rfl HG.out
 exact z0m rfl _ _ R (rm 7 0 ((Qtx.2:Nat):Int) 0 false 0 0 0 0 0) _ rfl rfl HRF.out
theorem rrec_dec8 (p:Option Addr) (n c:Nat) (Bs:List Nat) (W:World) (hw:Words W) (hS:Sl W p n c Bs) (hcm:c≤maxLen) (hk:(((numR ((0,Bs):St) 1).2:Nat):Int)=8):Calls Tryz.prog 50 #[.slice p n c] W (z0s W (decX Bs)):=by
 obtain⟨R,w00,w0,hR,hw00,hs00,hx00,hw0,hQ0⟩:=z3c p n c Bs W hS hcm
 have HW00:=hid hw00
 have HS00:=hid hs00
 have HX00:=hid hx00
 have HW0:=hid hw0
 have HQ0:=hid hQ0
 have HRE:=hid hR
 have HWD:=hid hw
 have HBY:Hid (∀ y∈Bs,y<256):=hid hS.lt
 clear hw00 hs00 hx00 hw0 hQ0 hR hw hS hcm
 obtain⟨R0,hR0⟩:∃ Q,numR ((0,Bs):St) 1=Q:=⟨_,rfl⟩
 have hn:=z0n HQ0.out.z 1 (by omega)
 have hf:=z1p HQ0.out.z
 have hz0:=q0s (Bs:=Bs) (by rw [hk];rfl)
 rw [hR0] at hz0
 have HZ0:=hid hz0
 clear hz0
 rw [hR0] at hn hf hk
 have HR0:=hid hR0
 have hx0:IntKind.u8.wrap ((R0.2:Nat):Int)=(R0.2:Nat):=z1g hf
 rw [hk] at hn hx0
 have HKK:=hid hk
 clear hf hR0 hk
 go_enter Tryz.func50,Tryz.ntmps50
 go_upto_region 2 with (fail)
 rw [HW00.out,HRE.out]
 go_upto_region 3 with ((try rw [HS00.out]);(with_reducible refine z0e rz HX00.out ?_ ?_ ?_);rfl;rfl;rw [HW0.out])
 go_wp2_with fail
 refine hn.mono ?_
 rintro e y0 ⟨rfl,hz,hc⟩
 have HQb:=hid (HQ0.out.low hz hc)
 clear hz hc hn
 obtain⟨cy,cf⟩:=HQb.out.cx (j:=0) (v:=.int .u8 0) rfl
 go_upto_region 4 with (fail)
 clear cy cf hx0
 have hq:=HQb.out.put 0 (.int .u8 8) (rm 8 0 0 0 false 0 0 0 0 0) rfl
 generalize y0.setCell ⟨R+2,0,none⟩ (.int .u8 8)=w1 at *
 have HQ1:=hid hq
 clear hq HQb HQ0 HW00 HS00 HX00 HW0
 have x1:=HQ1.out.z.err
 rw [HZ0.out] at x1
 have c0:=(HQ1.out.cx (j:=0) (v:=.int .u8 8) rfl).1
 go_wp2_with fail
 clear x1
 have hn:=z0n HQ1.out.z 4 (by omega)
 obtain⟨Qsg,hQsg⟩:∃ Q,numR R0.1 4=Q:=⟨_,rfl⟩
 have hf:=z4i HQ1.out.z
 rw [hQsg] at hn hf
 have hxsg:IntKind.u32.wrap ((Qsg.2:Nat):Int)=(Qsg.2:Nat):=z1w hf
 clear hf
 have HQsg:=hid hQsg
 clear hQsg
 refine hn.mono ?_
 rintro e y2 ⟨rfl,hz,hc⟩
 have HQb:=hid (HQ1.out.low hz hc)
 clear hz hc hn HQ1 c0
 obtain⟨cy,cf⟩:=HQb.out.cx (j:=1) (v:=.int .u32 0) rfl
 go_upto_region 8 with (fail)
 clear cy cf hxsg
 have hq:=HQb.out.put 1 (.int .u32 ((Qsg.2:Nat):Int)) (rm 8 ((Qsg.2:Nat):Int) 0 0 false 0 0 0 0 0) rfl
 generalize y2.setCell ⟨R+2,1,none⟩ (.int .u32 ((Qsg.2:Nat):Int))=w2 at *
 have HQ2:=hid hq
 clear hq HQb
 have c0:=(HQ2.out.cx (j:=0) (v:=.int .u8 8) rfl).1
 obtain⟨DD,hDD⟩:∃ D:Rdd,D=⟨Qsg.1,{ noX with k:=8,sg:=((Qsg.2:Nat):Int),tx:=0,st:=0,cp:=false,key:=(0,0,0),d:=0,o:=0 },0⟩:=⟨_,rfl⟩
 have HRX:Hid (rdX 8 R0.1=DD):=hid (by rw [hDD];simp [rdX,rd8,keyR,HQsg.out,noX])
 have HED:Hid (errD DD=Qsg.1.1):=hid (by rw [hDD];rfl)
 have HST:Hid (DD.st.2=Qsg.1.2):=hid (by rw [hDD])
 have HXX:Hid ((rm 8 ((Qsg.2:Nat):Int) 0 0 false 0 0 0 0 0).x [] [] []=DD.rx):=hid (by rw [hDD];rfl)
 clear hDD
 have HKO:Hid (kOk 8=true):=hid rfl
 have HDX:=hid (z4q HR0.out HKK.out HKO.out HRX.out)
 have x1:=HQ2.out.z.err
 by_cases he9:Qsg.1.1=0
 case neg =>
  have d9:(Qsg.1.1 != 0)=true:=by simpa using he9
  have hq9:Hid (Qsg.1.1≠0):=hid he9
  obtain⟨pr,nr,cr,hbx,hpr⟩:=HQ2.out.z.box
  have HQd:=hid (HQ2.out.later (show Below w2.heap.size w2 w2.drew from (Below.refl _ _).drew))
  have HBX:Hid (w2.drew.heap[R+1]?=some (.cells #[.slice pr nr cr,.int .i64 Qsg.1.1] 162 (0,0))):=hid hbx
  clear he9 hbx hpr
  have HRF:Hid (RB (w2.drew.setRow R (rcs rz)) R rz):=hid (HQd.out.res.set _)
  have HG:Hid (z0s W (decX Bs) (.returned (.tuple #[.agg zr,.int .i64 Qsg.1.1])) (w2.drew.setRow R zr)):=hid (by
   have hp:decX Bs=(Qsg.1.1,noX):=by
    rw [HDX.out,if_pos (by rw [z2r (by rw [HED.out];exact hq9.out),HED.out];exact hq9.out),z2r (by rw [HED.out];exact hq9.out),HED.out]
   rw [hp]
   exact⟨rz,[],[],[],rfl,rfl,rz_m _,below_setRow HQd.out.below HQd.out.base zr,z3i _⟩)
  go_wp2_with fail
  refine wp_region_held_drew (S:=fun w'=>Hid (w'.heap[R+1]?=some (.cells #[.slice pr nr cr,.int .i64 Qsg.1.1] 162 (0,0)))) (by kernel_rfl) HBX (fun hHeld=>?_)
  refine wpAnyH_take (i:=0) (oi:=⟨some 113,_,_,_,_,_⟩) (v:=.agg zr) rfl (by kernel_rfl) (by kernel_rfl) (by kernel_rfl) (fun _ _ _ h=>h) (Or.inl ⟨by rfl,fun w' hw'=>?_⟩) (by assumption) ?_
  · clear hHeld
    go_simp
  simp only [Act.put,sIB,sCZ,sCS]
  refine wpAnyH_take (i:=1) (oi:=⟨some 114,_,_,_,_,_⟩) (v:=.pointer (some ⟨R+1,0,none⟩)) rfl (by kernel_rfl) (by kernel_rfl) (by kernel_rfl) (fun _ _ _ h=>h) (Or.inl ⟨by rfl,fun w' hw'=>?_⟩) (by assumption) ?_
  · clear hHeld
    go_simp
  simp only [Act.put,sIB,sCZ,sCS]
  refine wpAnyH_take (i:=2) (oi:=⟨some 115,_,_,_,_,_⟩) (v:=.pointer (some ⟨R+1,0,none⟩)) rfl (by kernel_rfl) (by kernel_rfl) (by kernel_rfl) (fun _ _ _ h=>h) (Or.inl ⟨by rfl,fun w' hw'=>?_⟩) (by assumption) ?_
  · clear hHeld
    go_simp
  simp only [Act.put,sIB,sCZ,sCS]
  refine wpAnyH_take (i:=3) (oi:=⟨some 116,_,_,_,_,_⟩) (v:=.pointer (some ⟨R+1,1,none⟩)) rfl (by kernel_rfl) (by kernel_rfl) (by kernel_rfl) (fun _ _ _ h=>h) (Or.inl ⟨by rfl,fun w' hw'=>?_⟩) (by assumption) ?_
  · clear hHeld
    go_simp
  simp only [Act.put,sIB,sCZ,sCS]
  refine wpAnyH_take (i:=4) (oi:=⟨some 117,_,_,_,_,_⟩) (v:=.int .i64 Qsg.1.1) rfl (by kernel_rfl) (by kernel_rfl) (by kernel_rfl) (fun _ _ _ h=>h) (Or.inl ⟨by rfl,fun w' hw'=>?_⟩) (by assumption) ?_
  · have g1:=z0a (j:=1) (v:=.int .i64 Qsg.1.1) hw'.out rfl
    clear hHeld
    go_simp
  simp only [Act.put,sIB,sCZ,sCS]
  generalize w2.drew=Wd at *
  refine wpAnyH_ready (rs:=[5]) (by kernel_rfl) (by simp) (AllReadyH.cons rfl (fun K hK=>?_) AllReadyH.nil)
  rw [if_pos (by rfl)]
  refine wp_store_row 51 _ _ rfl R zr rfl rfl 51 _ HQd.out.res (by kernel_rfl) rfl (z2c rz) ?_
  have HB2:Hid ((Wd.setRow R zr).heap[R+1]?=some (.cells #[.slice pr nr cr,.int .i64 Qsg.1.1] 162 (0,0))):=hid ((setRow_other _ _ _ _ (by omega)).trans HBX.out)
  refine hK.out _ _ HB2 (fun hHeld2=>?_)
  clear hK K hHeld
  have hHeld:=hHeld2
  clear hHeld2
  (try simp only [Act.put,sIB,sCZ,sCS])
  refine wpAnyH_take (i:=6) (oi:=⟨some 3,_,_,_,_,_⟩) (v:=.int .i64 Qsg.1.1) rfl (by kernel_rfl) (by kernel_rfl) (by kernel_rfl) (fun _ _ _ h=>h) (Or.inl ⟨by rfl,fun w' hw'=>?_⟩) (by assumption) ?_
  · clear hHeld
    go_simp
  simp only [Act.put,sIB,sCZ,sCS]
  refine wpAnyH_done (by kernel_rfl) ?_ _
  clear hHeld
  (try simp only [Exit.inBlock,Exit.then])
  go_wp2_with fail
  refine bodyPost_ret (v:=.tuple #[.agg zr,.int .i64 Qsg.1.1]) ?_ rfl HG.out
  exact z0m rfl _ _ R rz _ rfl rfl HRF.out
 have d9:(Qsg.1.1 != 0)=false:=by simp [he9]
 obtain⟨pr,nr,cr,hbx,hpr⟩:=HQ2.out.z.box
 have hln:=(hpr he9).1.len
 rw [he9] at hbx
 have HLN:=hid hln
 have HZ9:Hid (errD DD=0):=hid (HED.out.trans he9)
 have b0:w2.cell? ⟨R+1,0,none⟩=some (.slice pr nr cr):=z0a hbx rfl
 have b1:w2.cell? ⟨R+1,1,none⟩=some (.int .i64 0):=z0a hbx rfl
 clear hbx hpr hln x1
 rw [he9] at d9
 clear he9
 by_cases hnr:0<nr
 case pos =>
  have hd:decide ((0:Int)<(nr:Int))=true:=decide_eq_true (by omega)
  have hdn:decide (0<nr)=true:=decide_eq_true hnr
  have HNR:=hid hnr
  clear hnr
  have HRF:Hid (RB (w2.setRow R (rcs rz)) R rz):=hid (HQ2.out.res.set _)
  have HG:Hid (z0s W (decX Bs) (.returned (.tuple #[.agg zr,.int .i64 8])) (w2.setRow R zr)):=hid (by
   have hp:decX Bs=(8,noX):=by
    have h8:=z4n HZ9.out (by rw [HST.out,HLN.out];exact HNR.out)
    rw [HDX.out,if_pos (by rw [h8];decide),h8]
   rw [hp]
   exact⟨rz,[],[],[],rfl,rfl,rz_m _,below_setRow HQ2.out.below HQ2.out.base zr,z3i _⟩)
  go_wp2_with ((with_reducible refine z0e rz HQ2.out.res ?_ ?_ ?_);rfl;rfl)
  (try simp only [Exit.inBlock,Exit.then])
  refine bodyPost_ret (v:=.tuple #[.agg zr,.int .i64 8]) ?_ rfl HG.out
  exact z0m rfl _ _ R rz _ rfl rfl HRF.out
 have hd:decide ((0:Int)<(nr:Int))=false:=decide_eq_false (by omega)
 have hdn:decide (0<nr)=false:=decide_eq_false hnr
 have HNR:=hid hnr
 clear hnr
 have h0:rdE DD=0:=z5w HZ9.out (by rw [HST.out,HLN.out];exact HNR.out)
 have HDY:Hid (decX Bs=if z1f DD.rx=true then (0,DD.rx) else (8,noX)):=hid (by rw [HDX.out,if_neg (fun h=>h h0)])
 have HMM:=hid ((z1b 8 ((Qsg.2:Nat):Int) 0 0 false 0 0 0 0 0 w2))
 have hokk:=z6d (k:=8) HKO.out (S:=R0.1) (by rw [← HR0.out];exact z0k (S:=(0,Bs)) HBY.out 1)
 rw [HRX.out,← HXX.out] at hokk
 obtain⟨hok,hs1,hs2,hs3⟩:=hokk
 have hgd:=z3p (rm 8 ((Qsg.2:Nat):Int) 0 0 false 0 0 0 0 0) [] [] [] w2 HMM.out hok (z3q HMM.out ⟨hs1,hs2,hs3⟩)
 clear h0 hok hs1 hs2 hs3
 go_wp2_with (first | ((with_reducible refine z0d HQ2.out.x ?_ ?_ ?_);rfl;rfl))
 refine hgd.mono ?_
 rintro e w90 ⟨rfl,hb90⟩
 have HQ90:=hid (HQ2.out.later hb90)
 have HM90:=hid (HMM.out.later hb90)
 clear hb90 hgd b0 b1
 cases hg:z1f ((rm 8 ((Qsg.2:Nat):Int) 0 0 false 0 0 0 0 0).x [] [] [])
 case false =>
  have HRF:Hid (RB (w90.setRow R (rcs rz)) R rz):=hid (HQ90.out.res.set _)
  have HG:Hid (z0s W (decX Bs) (.returned (.tuple #[.agg zr,.int .i64 8])) (w90.setRow R zr)):=hid (by
   have hp:decX Bs=(8,noX):=by
    rw [HDY.out,← HXX.out,if_neg (by rw [hg];decide)]
   rw [hp]
   exact⟨rz,[],[],[],rfl,rfl,rz_m _,below_setRow HQ90.out.below HQ90.out.base zr,z3i _⟩)
  go_wp2_with ((with_reducible refine z0e rz HQ90.out.res ?_ ?_ ?_);rfl;rfl)
  (try simp only [Exit.inBlock,Exit.then])
  refine bodyPost_ret (v:=.tuple #[.agg zr,.int .i64 8]) ?_ rfl HG.out
  exact z0m rfl _ _ R rz _ rfl rfl HRF.out
 have HRF:Hid (RB (w90.setRow R (rcs (rm 8 ((Qsg.2:Nat):Int) 0 0 false 0 0 0 0 0))) R (rm 8 ((Qsg.2:Nat):Int) 0 0 false 0 0 0 0 0)):=hid (HQ90.out.res.set _)
 have HG:Hid (z0s W (decX Bs) (.returned (.tuple #[.agg (rcs (rm 8 ((Qsg.2:Nat):Int) 0 0 false 0 0 0 0 0)),.int .i64 0])) (w90.setRow R (rcs (rm 8 ((Qsg.2:Nat):Int) 0 0 false 0 0 0 0 0)))):=hid (by
  have hp:decX Bs=(0,(rm 8 ((Qsg.2:Nat):Int) 0 0 false 0 0 0 0 0).x [] [] []):=by rw [HDY.out,← HXX.out,if_pos hg]
  rw [hp]
  exact⟨(rm 8 ((Qsg.2:Nat):Int) 0 0 false 0 0 0 0 0),[],[],[],rfl,rfl,z1b _ _ _ _ _ _ _ _ _ _ _,below_setRow HQ90.out.below HQ90.out.base (rcs (rm 8 ((Qsg.2:Nat):Int) 0 0 false 0 0 0 0 0)),q1d _ rfl rfl rfl⟩)
 clear hg
 go_wp2_with (first | ((with_reducible refine z0q HQ90.out.x ?_ ?_);rfl) | ((with_reducible refine z0e (rm 8 ((Qsg.2:Nat):Int) 0 0 false 0 0 0 0 0) HQ90.out.res ?_ ?_ ?_);rfl;rfl))
 (try simp only [Exit.inBlock,Exit.then])
 refine bodyPost_ret (v:=.tuple #[.agg (rcs (rm 8 ((Qsg.2:Nat):Int) 0 0 false 0 0 0 0 0)),.int .i64 0]) ?_ rfl HG.out
 exact z0m rfl _ _ R (rm 8 ((Qsg.2:Nat):Int) 0 0 false 0 0 0 0 0) _ rfl rfl HRF.out
theorem rrec_dec9 (p:Option Addr) (n c:Nat) (Bs:List Nat) (W:World) (hw:Words W) (hS:Sl W p n c Bs) (hcm:c≤maxLen) (hk:(((numR ((0,Bs):St) 1).2:Nat):Int)=9):Calls Tryz.prog 50 #[.slice p n c] W (z0s W (decX Bs)):=by
 obtain⟨R,w00,w0,hR,hw00,hs00,hx00,hw0,hQ0⟩:=z3c p n c Bs W hS hcm
 have HW00:=hid hw00
 have HS00:=hid hs00
 have HX00:=hid hx00
 have HW0:=hid hw0
 have HQ0:=hid hQ0
 have HRE:=hid hR
 have HWD:=hid hw
 have HBY:Hid (∀ y∈Bs,y<256):=hid hS.lt
 clear hw00 hs00 hx00 hw0 hQ0 hR hw hS hcm
 obtain⟨R0,hR0⟩:∃ Q,numR ((0,Bs):St) 1=Q:=⟨_,rfl⟩
 have hn:=z0n HQ0.out.z 1 (by omega)
 have hf:=z1p HQ0.out.z
 have hz0:=q0s (Bs:=Bs) (by rw [hk];rfl)
 rw [hR0] at hz0
 have HZ0:=hid hz0
 clear hz0
 rw [hR0] at hn hf hk
 have HR0:=hid hR0
 have hx0:IntKind.u8.wrap ((R0.2:Nat):Int)=(R0.2:Nat):=z1g hf
 rw [hk] at hn hx0
 have HKK:=hid hk
 clear hf hR0 hk
 go_enter Tryz.func50,Tryz.ntmps50
 go_upto_region 2 with (fail)
 rw [HW00.out,HRE.out]
 go_upto_region 3 with ((try rw [HS00.out]);(with_reducible refine z0e rz HX00.out ?_ ?_ ?_);rfl;rfl;rw [HW0.out])
 go_wp2_with fail
 refine hn.mono ?_
 rintro e y0 ⟨rfl,hz,hc⟩
 have HQb:=hid (HQ0.out.low hz hc)
 clear hz hc hn
 obtain⟨cy,cf⟩:=HQb.out.cx (j:=0) (v:=.int .u8 0) rfl
 go_upto_region 4 with (fail)
 clear cy cf hx0
 have hq:=HQb.out.put 0 (.int .u8 9) (rm 9 0 0 0 false 0 0 0 0 0) rfl
 generalize y0.setCell ⟨R+2,0,none⟩ (.int .u8 9)=w1 at *
 have HQ1:=hid hq
 clear hq HQb HQ0 HW00 HS00 HX00 HW0
 have x1:=HQ1.out.z.err
 rw [HZ0.out] at x1
 have c0:=(HQ1.out.cx (j:=0) (v:=.int .u8 9) rfl).1
 go_wp2_with fail
 clear x1
 have hn:=z0n HQ1.out.z 4 (by omega)
 obtain⟨Qsg,hQsg⟩:∃ Q,numR R0.1 4=Q:=⟨_,rfl⟩
 have hf:=z4i HQ1.out.z
 rw [hQsg] at hn hf
 have hxsg:IntKind.u32.wrap ((Qsg.2:Nat):Int)=(Qsg.2:Nat):=z1w hf
 clear hf
 have HQsg:=hid hQsg
 clear hQsg
 refine hn.mono ?_
 rintro e y2 ⟨rfl,hz,hc⟩
 have HQb:=hid (HQ1.out.low hz hc)
 clear hz hc hn HQ1 c0
 obtain⟨cy,cf⟩:=HQb.out.cx (j:=1) (v:=.int .u32 0) rfl
 go_upto_region 8 with (fail)
 clear cy cf hxsg
 have hq:=HQb.out.put 1 (.int .u32 ((Qsg.2:Nat):Int)) (rm 9 ((Qsg.2:Nat):Int) 0 0 false 0 0 0 0 0) rfl
 generalize y2.setCell ⟨R+2,1,none⟩ (.int .u32 ((Qsg.2:Nat):Int))=w2 at *
 have HQ2:=hid hq
 clear hq HQb
 have c0:=(HQ2.out.cx (j:=0) (v:=.int .u8 9) rfl).1
 go_wp2_with fail
 have hn:=z0n HQ2.out.z 1 (by omega)
 obtain⟨Qo,hQo⟩:∃ Q,numR Qsg.1 1=Q:=⟨_,rfl⟩
 have hf:=z1p HQ2.out.z
 rw [hQo] at hn hf
 have hxo:IntKind.u8.wrap ((Qo.2:Nat):Int)=(Qo.2:Nat):=z1g hf
 clear hf
 have HQo:=hid hQo
 clear hQo
 refine hn.mono ?_
 rintro e y3 ⟨rfl,hz,hc⟩
 have HQb:=hid (HQ2.out.low hz hc)
 clear hz hc hn HQ2 c0
 obtain⟨cy,cf⟩:=HQb.out.cx (j:=9) (v:=.int .u8 0) rfl
 go_upto_region 20 with (fail)
 clear cy cf hxo
 have hq:=HQb.out.put 9 (.int .u8 ((Qo.2:Nat):Int)) (rm 9 ((Qsg.2:Nat):Int) 0 0 false 0 0 0 0 ((Qo.2:Nat):Int)) rfl
 generalize y3.setCell ⟨R+2,9,none⟩ (.int .u8 ((Qo.2:Nat):Int))=w3 at *
 have HQ3:=hid hq
 clear hq HQb
 have c0:=(HQ3.out.cx (j:=0) (v:=.int .u8 9) rfl).1
 obtain⟨DD,hDD⟩:∃ D:Rdd,D=⟨Qo.1,{ noX with k:=9,sg:=((Qsg.2:Nat):Int),tx:=0,st:=0,cp:=false,key:=(0,0,0),d:=0,o:=((Qo.2:Nat):Int) },0⟩:=⟨_,rfl⟩
 have HRX:Hid (rdX 9 R0.1=DD):=hid (by rw [hDD];simp [rdX,rd9,keyR,HQsg.out,HQo.out,noX])
 have HED:Hid (errD DD=Qo.1.1):=hid (by rw [hDD];rfl)
 have HST:Hid (DD.st.2=Qo.1.2):=hid (by rw [hDD])
 have HXX:Hid ((rm 9 ((Qsg.2:Nat):Int) 0 0 false 0 0 0 0 ((Qo.2:Nat):Int)).x [] [] []=DD.rx):=hid (by rw [hDD];rfl)
 clear hDD
 have HKO:Hid (kOk 9=true):=hid rfl
 have HDX:=hid (z4q HR0.out HKK.out HKO.out HRX.out)
 have x1:=HQ3.out.z.err
 by_cases he9:Qo.1.1=0
 case neg =>
  have d9:(Qo.1.1 != 0)=true:=by simpa using he9
  have hq9:Hid (Qo.1.1≠0):=hid he9
  obtain⟨pr,nr,cr,hbx,hpr⟩:=HQ3.out.z.box
  have HQd:=hid (HQ3.out.later (show Below w3.heap.size w3 w3.drew from (Below.refl _ _).drew))
  have HBX:Hid (w3.drew.heap[R+1]?=some (.cells #[.slice pr nr cr,.int .i64 Qo.1.1] 162 (0,0))):=hid hbx
  clear he9 hbx hpr
  have HRF:Hid (RB (w3.drew.setRow R (rcs rz)) R rz):=hid (HQd.out.res.set _)
  have HG:Hid (z0s W (decX Bs) (.returned (.tuple #[.agg zr,.int .i64 Qo.1.1])) (w3.drew.setRow R zr)):=hid (by
   have hp:decX Bs=(Qo.1.1,noX):=by
    rw [HDX.out,if_pos (by rw [z2r (by rw [HED.out];exact hq9.out),HED.out];exact hq9.out),z2r (by rw [HED.out];exact hq9.out),HED.out]
   rw [hp]
   exact⟨rz,[],[],[],rfl,rfl,rz_m _,below_setRow HQd.out.below HQd.out.base zr,z3i _⟩)
  go_wp2_with fail
  refine wp_region_held_drew (S:=fun w'=>Hid (w'.heap[R+1]?=some (.cells #[.slice pr nr cr,.int .i64 Qo.1.1] 162 (0,0)))) (by kernel_rfl) HBX (fun hHeld=>?_)
  refine wpAnyH_take (i:=0) (oi:=⟨some 113,_,_,_,_,_⟩) (v:=.agg zr) rfl (by kernel_rfl) (by kernel_rfl) (by kernel_rfl) (fun _ _ _ h=>h) (Or.inl ⟨by rfl,fun w' hw'=>?_⟩) (by assumption) ?_
  · clear hHeld
    go_simp
  simp only [Act.put,sIB,sCZ,sCS]
  refine wpAnyH_take (i:=1) (oi:=⟨some 114,_,_,_,_,_⟩) (v:=.pointer (some ⟨R+1,0,none⟩)) rfl (by kernel_rfl) (by kernel_rfl) (by kernel_rfl) (fun _ _ _ h=>h) (Or.inl ⟨by rfl,fun w' hw'=>?_⟩) (by assumption) ?_
  · clear hHeld
    go_simp
  simp only [Act.put,sIB,sCZ,sCS]
  refine wpAnyH_take (i:=2) (oi:=⟨some 115,_,_,_,_,_⟩) (v:=.pointer (some ⟨R+1,0,none⟩)) rfl (by kernel_rfl) (by kernel_rfl) (by kernel_rfl) (fun _ _ _ h=>h) (Or.inl ⟨by rfl,fun w' hw'=>?_⟩) (by assumption) ?_
  · clear hHeld
    go_simp
  simp only [Act.put,sIB,sCZ,sCS]
  refine wpAnyH_take (i:=3) (oi:=⟨some 116,_,_,_,_,_⟩) (v:=.pointer (some ⟨R+1,1,none⟩)) rfl (by kernel_rfl) (by kernel_rfl) (by kernel_rfl) (fun _ _ _ h=>h) (Or.inl ⟨by rfl,fun w' hw'=>?_⟩) (by assumption) ?_
  · clear hHeld
    go_simp
  simp only [Act.put,sIB,sCZ,sCS]
  refine wpAnyH_take (i:=4) (oi:=⟨some 117,_,_,_,_,_⟩) (v:=.int .i64 Qo.1.1) rfl (by kernel_rfl) (by kernel_rfl) (by kernel_rfl) (fun _ _ _ h=>h) (Or.inl ⟨by rfl,fun w' hw'=>?_⟩) (by assumption) ?_
  · have g1:=z0a (j:=1) (v:=.int .i64 Qo.1.1) hw'.out rfl
    clear hHeld
    go_simp
  simp only [Act.put,sIB,sCZ,sCS]
  generalize w3.drew=Wd at *
  refine wpAnyH_ready (rs:=[5]) (by kernel_rfl) (by simp) (AllReadyH.cons rfl (fun K hK=>?_) AllReadyH.nil)
  rw [if_pos (by rfl)]
  refine wp_store_row 51 _ _ rfl R zr rfl rfl 51 _ HQd.out.res (by kernel_rfl) rfl (z2c rz) ?_
  have HB2:Hid ((Wd.setRow R zr).heap[R+1]?=some (.cells #[.slice pr nr cr,.int .i64 Qo.1.1] 162 (0,0))):=hid ((setRow_other _ _ _ _ (by omega)).trans HBX.out)
  refine hK.out _ _ HB2 (fun hHeld2=>?_)
  clear hK K hHeld
  have hHeld:=hHeld2
  clear hHeld2
  (try simp only [Act.put,sIB,sCZ,sCS])
  refine wpAnyH_take (i:=6) (oi:=⟨some 3,_,_,_,_,_⟩) (v:=.int .i64 Qo.1.1) rfl (by kernel_rfl) (by kernel_rfl) (by kernel_rfl) (fun _ _ _ h=>h) (Or.inl ⟨by rfl,fun w' hw'=>?_⟩) (by assumption) ?_
  · clear hHeld
    go_simp
  simp only [Act.put,sIB,sCZ,sCS]
  refine wpAnyH_done (by kernel_rfl) ?_ _
  clear hHeld
  (try simp only [Exit.inBlock,Exit.then])
  go_wp2_with fail
  refine bodyPost_ret (v:=.tuple #[.agg zr,.int .i64 Qo.1.1]) ?_ rfl HG.out
  exact z0m rfl _ _ R rz _ rfl rfl HRF.out
 have d9:(Qo.1.1 != 0)=false:=by simp [he9]
 obtain⟨pr,nr,cr,hbx,hpr⟩:=HQ3.out.z.box
 have hln:=(hpr he9).1.len
 rw [he9] at hbx
 have HLN:=hid hln
 have HZ9:Hid (errD DD=0):=hid (HED.out.trans he9)
 have b0:w3.cell? ⟨R+1,0,none⟩=some (.slice pr nr cr):=z0a hbx rfl
 have b1:w3.cell? ⟨R+1,1,none⟩=some (.int .i64 0):=z0a hbx rfl
 clear hbx hpr hln x1
 rw [he9] at d9
 clear he9
 by_cases hnr:0<nr
 case pos =>
  have hd:decide ((0:Int)<(nr:Int))=true:=decide_eq_true (by omega)
  have hdn:decide (0<nr)=true:=decide_eq_true hnr
  have HNR:=hid hnr
  clear hnr
  have HRF:Hid (RB (w3.setRow R (rcs rz)) R rz):=hid (HQ3.out.res.set _)
  have HG:Hid (z0s W (decX Bs) (.returned (.tuple #[.agg zr,.int .i64 8])) (w3.setRow R zr)):=hid (by
   have hp:decX Bs=(8,noX):=by
    have h8:=z4n HZ9.out (by rw [HST.out,HLN.out];exact HNR.out)
    rw [HDX.out,if_pos (by rw [h8];decide),h8]
   rw [hp]
   exact⟨rz,[],[],[],rfl,rfl,rz_m _,below_setRow HQ3.out.below HQ3.out.base zr,z3i _⟩)
  go_wp2_with ((with_reducible refine z0e rz HQ3.out.res ?_ ?_ ?_);rfl;rfl)
  (try simp only [Exit.inBlock,Exit.then])
  refine bodyPost_ret (v:=.tuple #[.agg zr,.int .i64 8]) ?_ rfl HG.out
  exact z0m rfl _ _ R rz _ rfl rfl HRF.out
 have hd:decide ((0:Int)<(nr:Int))=false:=decide_eq_false (by omega)
 have hdn:decide (0<nr)=false:=decide_eq_false hnr
 have HNR:=hid hnr
 clear hnr
 have h0:rdE DD=0:=z5w HZ9.out (by rw [HST.out,HLN.out];exact HNR.out)
 have HDY:Hid (decX Bs=if z1f DD.rx=true then (0,DD.rx) else (8,noX)):=hid (by rw [HDX.out,if_neg (fun h=>h h0)])
 have HMM:=hid ((z1b 9 ((Qsg.2:Nat):Int) 0 0 false 0 0 0 0 ((Qo.2:Nat):Int) w3))
 have hokk:=z6d (k:=9) HKO.out (S:=R0.1) (by rw [← HR0.out];exact z0k (S:=(0,Bs)) HBY.out 1)
 rw [HRX.out,← HXX.out] at hokk
 obtain⟨hok,hs1,hs2,hs3⟩:=hokk
 have hgd:=z3p (rm 9 ((Qsg.2:Nat):Int) 0 0 false 0 0 0 0 ((Qo.2:Nat):Int)) [] [] [] w3 HMM.out hok (z3q HMM.out ⟨hs1,hs2,hs3⟩)
 clear h0 hok hs1 hs2 hs3
 go_wp2_with (first | ((with_reducible refine z0d HQ3.out.x ?_ ?_ ?_);rfl;rfl))
 refine hgd.mono ?_
 rintro e w90 ⟨rfl,hb90⟩
 have HQ90:=hid (HQ3.out.later hb90)
 have HM90:=hid (HMM.out.later hb90)
 clear hb90 hgd b0 b1
 cases hg:z1f ((rm 9 ((Qsg.2:Nat):Int) 0 0 false 0 0 0 0 ((Qo.2:Nat):Int)).x [] [] [])
 case false =>
  have HRF:Hid (RB (w90.setRow R (rcs rz)) R rz):=hid (HQ90.out.res.set _)
  have HG:Hid (z0s W (decX Bs) (.returned (.tuple #[.agg zr,.int .i64 8])) (w90.setRow R zr)):=hid (by
   have hp:decX Bs=(8,noX):=by
    rw [HDY.out,← HXX.out,if_neg (by rw [hg];decide)]
   rw [hp]
   exact⟨rz,[],[],[],rfl,rfl,rz_m _,below_setRow HQ90.out.below HQ90.out.base zr,z3i _⟩)
  go_wp2_with ((with_reducible refine z0e rz HQ90.out.res ?_ ?_ ?_);rfl;rfl)
  (try simp only [Exit.inBlock,Exit.then])
  refine bodyPost_ret (v:=.tuple #[.agg zr,.int .i64 8]) ?_ rfl HG.out
  exact z0m rfl _ _ R rz _ rfl rfl HRF.out
 have HRF:Hid (RB (w90.setRow R (rcs (rm 9 ((Qsg.2:Nat):Int) 0 0 false 0 0 0 0 ((Qo.2:Nat):Int)))) R (rm 9 ((Qsg.2:Nat):Int) 0 0 false 0 0 0 0 ((Qo.2:Nat):Int))):=hid (HQ90.out.res.set _)
 have HG:Hid (z0s W (decX Bs) (.returned (.tuple #[.agg (rcs (rm 9 ((Qsg.2:Nat):Int) 0 0 false 0 0 0 0 ((Qo.2:Nat):Int))),.int .i64 0])) (w90.setRow R (rcs (rm 9 ((Qsg.2:Nat):Int) 0 0 false 0 0 0 0 ((Qo.2:Nat):Int))))):=hid (by
  have hp:decX Bs=(0,(rm 9 ((Qsg.2:Nat):Int) 0 0 false 0 0 0 0 ((Qo.2:Nat):Int)).x [] [] []):=by rw [HDY.out,← HXX.out,if_pos hg]
  rw [hp]
  exact⟨(rm 9 ((Qsg.2:Nat):Int) 0 0 false 0 0 0 0 ((Qo.2:Nat):Int)),[],[],[],rfl,rfl,z1b _ _ _ _ _ _ _ _ _ _ _,below_setRow HQ90.out.below HQ90.out.base (rcs (rm 9 ((Qsg.2:Nat):Int) 0 0 false 0 0 0 0 ((Qo.2:Nat):Int))),q1d _ rfl rfl rfl⟩)
 clear hg
 go_wp2_with (first | ((with_reducible refine z0q HQ90.out.x ?_ ?_);rfl) | ((with_reducible refine z0e (rm 9 ((Qsg.2:Nat):Int) 0 0 false 0 0 0 0 ((Qo.2:Nat):Int)) HQ90.out.res ?_ ?_ ?_);rfl;rfl))
 (try simp only [Exit.inBlock,Exit.then])
 refine bodyPost_ret (v:=.tuple #[.agg (rcs (rm 9 ((Qsg.2:Nat):Int) 0 0 false 0 0 0 0 ((Qo.2:Nat):Int))),.int .i64 0]) ?_ rfl HG.out
 exact z0m rfl _ _ R (rm 9 ((Qsg.2:Nat):Int) 0 0 false 0 0 0 0 ((Qo.2:Nat):Int)) _ rfl rfl HRF.out
theorem rrec_decx (p:Option Addr) (n c:Nat) (Bs:List Nat) (W:World) (hw:Words W) (hS:Sl W p n c Bs) (hcm:c≤maxLen) (kk:Int) (hko:kOk kk=false) (hk:(((numR ((0,Bs):St) 1).2:Nat):Int)=kk):Calls Tryz.prog 50 #[.slice p n c] W (z0s W (decX Bs)):=by
 obtain⟨R,w00,w0,hR,hw00,hs00,hx00,hw0,hQ0⟩:=z3c p n c Bs W hS hcm
 have HW00:=hid hw00
 have HS00:=hid hs00
 have HX00:=hid hx00
 have HW0:=hid hw0
 have HQ0:=hid hQ0
 have HRE:=hid hR
 have HWD:=hid hw
 have HBY:Hid (∀ y∈Bs,y<256):=hid hS.lt
 clear hw00 hs00 hx00 hw0 hQ0 hR hw hS hcm
 obtain⟨R0,hR0⟩:∃ Q,numR ((0,Bs):St) 1=Q:=⟨_,rfl⟩
 have hn:=z0n HQ0.out.z 1 (by omega)
 have hf:=z1p HQ0.out.z
 rw [hR0] at hn hf hk
 have HR0:=hid hR0
 have hx0:IntKind.u8.wrap ((R0.2:Nat):Int)=(R0.2:Nat):=z1g hf
 rw [hk] at hn hx0
 have HKK:=hid hk
 clear hf hR0 hk
 go_enter Tryz.func50,Tryz.ntmps50
 go_upto_region 2 with (fail)
 rw [HW00.out,HRE.out]
 go_upto_region 3 with ((try rw [HS00.out]);(with_reducible refine z0e rz HX00.out ?_ ?_ ?_);rfl;rfl;rw [HW0.out])
 go_wp2_with fail
 refine hn.mono ?_
 rintro e y0 ⟨rfl,hz,hc⟩
 have HQb:=hid (HQ0.out.low hz hc)
 clear hz hc hn
 obtain⟨cy,cf⟩:=HQb.out.cx (j:=0) (v:=.int .u8 0) rfl
 go_upto_region 4 with (fail)
 clear cy cf hx0
 have hq:=HQb.out.put 0 (.int .u8 kk) (rm kk 0 0 0 false 0 0 0 0 0) rfl
 generalize y0.setCell ⟨R+2,0,none⟩ (.int .u8 kk)=w1 at *
 have HQ1:=hid hq
 clear hq HQb HQ0 HW00 HS00 HX00 HW0
 have HDX:=hid (decX_no HR0.out HKK.out hko)
 have x1:=HQ1.out.z.err
 by_cases he9:R0.1.1=0
 case neg =>
  have hkz:kk=0:=by
   rw [← HKK.out,← HR0.out,q0n (by omega) (by rw [HR0.out];exact he9)]
   rfl
  subst hkz
  have c0:=(HQ1.out.cx (j:=0) (v:=.int .u8 0) rfl).1
  have d9:(R0.1.1 != 0)=true:=by simpa using he9
  have d8:(R0.1.1==0)=false:=by simpa using he9
  have hq9:Hid (R0.1.1≠0):=hid he9
  obtain⟨pr,nr,cr,hbx,hpr⟩:=HQ1.out.z.box
  have HQd:=hid (HQ1.out.later (show Below w1.heap.size w1 w1.drew from (Below.refl _ _).drew))
  have HBX:Hid (w1.drew.heap[R+1]?=some (.cells #[.slice pr nr cr,.int .i64 R0.1.1] 162 (0,0))):=hid hbx
  clear he9 hbx hpr
  have HRF:Hid (RB (w1.drew.setRow R (rcs rz)) R rz):=hid (HQd.out.res.set _)
  have HG:Hid (z0s W (decX Bs) (.returned (.tuple #[.agg zr,.int .i64 R0.1.1])) (w1.drew.setRow R zr)):=hid (by
   have hp:decX Bs=(R0.1.1,noX):=by
    rw [HDX.out,if_pos hq9.out]
   rw [hp]
   exact⟨rz,[],[],[],rfl,rfl,rz_m _,below_setRow HQd.out.below HQd.out.base zr,z3i _⟩)
  go_wp2_with fail
  refine wp_region_held_drew (S:=fun w'=>Hid (w'.heap[R+1]?=some (.cells #[.slice pr nr cr,.int .i64 R0.1.1] 162 (0,0)))) (by kernel_rfl) HBX (fun hHeld=>?_)
  refine wpAnyH_take (i:=0) (oi:=⟨some 113,_,_,_,_,_⟩) (v:=.agg zr) rfl (by kernel_rfl) (by kernel_rfl) (by kernel_rfl) (fun _ _ _ h=>h) (Or.inl ⟨by rfl,fun w' hw'=>?_⟩) (by assumption) ?_
  · clear hHeld
    go_simp
  simp only [Act.put,sIB,sCZ,sCS]
  refine wpAnyH_take (i:=1) (oi:=⟨some 114,_,_,_,_,_⟩) (v:=.pointer (some ⟨R+1,0,none⟩)) rfl (by kernel_rfl) (by kernel_rfl) (by kernel_rfl) (fun _ _ _ h=>h) (Or.inl ⟨by rfl,fun w' hw'=>?_⟩) (by assumption) ?_
  · clear hHeld
    go_simp
  simp only [Act.put,sIB,sCZ,sCS]
  refine wpAnyH_take (i:=2) (oi:=⟨some 115,_,_,_,_,_⟩) (v:=.pointer (some ⟨R+1,0,none⟩)) rfl (by kernel_rfl) (by kernel_rfl) (by kernel_rfl) (fun _ _ _ h=>h) (Or.inl ⟨by rfl,fun w' hw'=>?_⟩) (by assumption) ?_
  · clear hHeld
    go_simp
  simp only [Act.put,sIB,sCZ,sCS]
  refine wpAnyH_take (i:=3) (oi:=⟨some 116,_,_,_,_,_⟩) (v:=.pointer (some ⟨R+1,1,none⟩)) rfl (by kernel_rfl) (by kernel_rfl) (by kernel_rfl) (fun _ _ _ h=>h) (Or.inl ⟨by rfl,fun w' hw'=>?_⟩) (by assumption) ?_
  · clear hHeld
    go_simp
  simp only [Act.put,sIB,sCZ,sCS]
  refine wpAnyH_take (i:=4) (oi:=⟨some 117,_,_,_,_,_⟩) (v:=.int .i64 R0.1.1) rfl (by kernel_rfl) (by kernel_rfl) (by kernel_rfl) (fun _ _ _ h=>h) (Or.inl ⟨by rfl,fun w' hw'=>?_⟩) (by assumption) ?_
  · have g1:=z0a (j:=1) (v:=.int .i64 R0.1.1) hw'.out rfl
    clear hHeld
    go_simp
  simp only [Act.put,sIB,sCZ,sCS]
  generalize w1.drew=Wd at *
  refine wpAnyH_ready (rs:=[5]) (by kernel_rfl) (by simp) (AllReadyH.cons rfl (fun K hK=>?_) AllReadyH.nil)
  rw [if_pos (by rfl)]
  refine wp_store_row 51 _ _ rfl R zr rfl rfl 51 _ HQd.out.res (by kernel_rfl) rfl (z2c rz) ?_
  have HB2:Hid ((Wd.setRow R zr).heap[R+1]?=some (.cells #[.slice pr nr cr,.int .i64 R0.1.1] 162 (0,0))):=hid ((setRow_other _ _ _ _ (by omega)).trans HBX.out)
  refine hK.out _ _ HB2 (fun hHeld2=>?_)
  clear hK K hHeld
  have hHeld:=hHeld2
  clear hHeld2
  (try simp only [Act.put,sIB,sCZ,sCS])
  refine wpAnyH_take (i:=6) (oi:=⟨some 3,_,_,_,_,_⟩) (v:=.int .i64 R0.1.1) rfl (by kernel_rfl) (by kernel_rfl) (by kernel_rfl) (fun _ _ _ h=>h) (Or.inl ⟨by rfl,fun w' hw'=>?_⟩) (by assumption) ?_
  · clear hHeld
    go_simp
  simp only [Act.put,sIB,sCZ,sCS]
  refine wpAnyH_done (by kernel_rfl) ?_ _
  clear hHeld
  (try simp only [Exit.inBlock,Exit.then])
  go_wp2_with fail
  refine bodyPost_ret (v:=.tuple #[.agg zr,.int .i64 R0.1.1]) ?_ rfl HG.out
  exact z0m rfl _ _ R rz _ rfl rfl HRF.out
 rw [he9] at x1
 have HRF:Hid (RB (w1.setRow R (rcs rz)) R rz):=hid (HQ1.out.res.set _)
 have HG:Hid (z0s W (decX Bs) (.returned (.tuple #[.agg zr,.int .i64 8])) (w1.setRow R zr)):=hid (by
  have hp:decX Bs=(8,noX):=by
   rw [HDX.out,if_neg (fun h=>h he9)]
  rw [hp]
  exact⟨rz,[],[],[],rfl,rfl,rz_m _,below_setRow HQ1.out.below HQ1.out.base zr,z3i _⟩)
 have HE9:=hid he9
 clear he9
 by_cases hk1:kk<1
 case pos =>
  have hkz:kk=0:=by
   have:=HKK.out
   omega
  subst hkz
  clear hk1
  have c0:=(HQ1.out.cx (j:=0) (v:=.int .u8 0) rfl).1
  go_wp2_with ((with_reducible refine z0e rz HQ1.out.res ?_ ?_ ?_);rfl;rfl)
  (try simp only [Exit.inBlock,Exit.then])
  refine bodyPost_ret (v:=.tuple #[.agg zr,.int .i64 8]) ?_ rfl HG.out
  exact z0m rfl _ _ R rz _ rfl rfl HRF.out
 have hk9:9<kk:=by
  rcases Int.lt_or_le 9 kk with h | h
  · exact h
  · have:kk=1∨kk=2∨kk=3∨kk=4∨kk=5∨kk=6∨kk=7∨kk=8∨kk=9:=by omega
    rcases this with h | h | h | h | h | h | h | h | h <;> rw [h] at hko <;> exact absurd hko (by decide)
 have d1:decide (kk<1)=false:=decide_eq_false hk1
 have d2:decide (9<kk)=true:=decide_eq_true hk9
 have HK1:=hid hk1
 have HK9:=hid hk9
 have HKOF:=hid hko
 clear hk1 hk9 hko
 have c0:=(HQ1.out.cx (j:=0) (v:=.int .u8 kk) rfl).1
 go_wp2_with ((with_reducible refine z0e rz HQ1.out.res ?_ ?_ ?_);rfl;rfl)
 (try simp only [Exit.inBlock,Exit.then])
 refine bodyPost_ret (v:=.tuple #[.agg zr,.int .i64 8]) ?_ rfl HG.out
 exact z0m rfl _ _ R rz _ rfl rfl HRF.out
theorem rrec_decode (p:Option Addr) (n c:Nat) (Bs:List Nat) (W:World) (hw:Words W) (hS:Sl W p n c Bs) (hcm:c≤maxLen):Calls Tryz.prog 50 #[.slice p n c] W (z0s W (decX Bs)):=by
 obtain⟨kk,hkk⟩:∃ kk:Int,(((numR ((0,Bs):St) 1).2:Nat):Int)=kk:=⟨_,rfl⟩
 cases hko:kOk kk with
 | true =>
  rcases z5c hko with h | h | h | h | h | h | h | h | h <;> rw [h] at hkk
  · exact rrec_dec1 p n c Bs W hw hS hcm hkk
  · exact rrec_dec2 p n c Bs W hw hS hcm hkk
  · exact rrec_dec3 p n c Bs W hw hS hcm hkk
  · exact rrec_dec4 p n c Bs W hw hS hcm hkk
  · exact rrec_dec5 p n c Bs W hw hS hcm hkk
  · exact rrec_dec6 p n c Bs W hw hS hcm hkk
  · exact rrec_dec7 p n c Bs W hw hS hcm hkk
  · exact rrec_dec8 p n c Bs W hw hS hcm hkk
  · exact rrec_dec9 p n c Bs W hw hS hcm hkk
 | false=>exact rrec_decx p n c Bs W hw hS hcm kk hko hkk
end Go.Proofs.YtfdgnniicjdjdaaGreatDoor
