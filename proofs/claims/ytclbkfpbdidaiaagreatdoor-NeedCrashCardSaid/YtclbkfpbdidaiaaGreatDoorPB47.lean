import Derived.Test.YtclbkfpbdidaiaaGreatDoorPB46
import Derived.Test.YtclbkfpbdidaiaaGreatDoorPB38
import Derived.Deep.CutBlock
namespace Go.Proofs.YtclbkfpbdidaiaaGreatDoor
open Go.Lib (hid)
set_option maxHeartbeats 16000000
open Go.RowKit Go.ChangeShapes Go.WideShapes
set_option linter.unusedVariables false
set_option linter.unusedSimpArgs false
set_option maxRecDepth 10000
variable {Ju:World→Nat→List Tc→(Nat→Prop)→Prop}
theorem law_ncrash (I:JnF Words Ju) (y:Yv) (nn:Int) (L:List Ln) (T:List Tk) (M:List Ln) (K:List Bool) (W:World) (hw:Words W) (hR:RvM W y.p L T M) (hok:Pgok (y.p.pg L T M)) (hrt:0≤y.rt∧y.rt≤255) (hK:BoL W y.kp y.kn y.kc K) (hnn:0≤nn∧nn≤255):Calls Tryz.prog 6 #[.agg (ycs y),.int .u8 nn] W fun e w'=>e=.returned (.bool true)∧Below W.heap.size W w':=by
 have HI:=hid I
 clear I
 obtain⟨W1,hW1,hy,hb1⟩:∃ W1,W.alloc (.cells (ycs y) 29)=W1∧YB W1 W.heap.size y∧Below W.heap.size W W1:=⟨_,rfl,YB.new W y,(Below.refl _ _).alloc (Nat.le_refl _) _⟩
 obtain⟨B0,hB⟩:∃ B0,W.heap.size=B0:=⟨_,rfl⟩
 rw [hB] at hy
 have HY:=hid hy
 have HW1:=hid hW1
 have HB1:=hid hb1
 have HRE:=hid hB
 have HW:=hid fun w' (hb:Below W.heap.size W w')=>hw.later hb
 have HRM:=hid fun w' (hb:Below W.heap.size W w')=>PgM.later hR hb
 have HK:=hid fun w' (hb:Below W.heap.size W w')=>hK.later hb
 have HOK:=hid hok
 have HRT:=hid hrt
 have hfew:∀ w,Calls Tryz.prog 7 #[.agg (pcs y.p)] w fun e w'=>e=.returned (.int .i64 (fewI y.p.ln y.p.tn y.p.wn))∧Below w.heap.size w w':=fun w=>few_p _ _ _ _ _ _ _ _ _ _ _ _ _ _ _ _ w
 obtain⟨kp,hkp⟩:∃ kp,y.kp=kp:=⟨_,rfl⟩
 obtain⟨kn,hkn⟩:∃ kn,y.kn=kn:=⟨_,rfl⟩
 obtain⟨kc,hkc⟩:∃ kc,y.kc=kc:=⟨_,rfl⟩
 have HA:Hid (∀ w,YB w B0 y→w.cell? ⟨B0,10,none⟩=some (.int .u8 y.rt)∧w.cell? ⟨B0,11,none⟩=some (.slice kp kn kc)):=hid fun w h=>by
  have:=h.at
  rw [hkp,hkn,hkc] at this
  exact this
 rw [hkp,hkn,hkc] at HK
 clear hW1 hy hb1 hB hw hR hok hrt hK hkp hkn hkc
 have HF:=hid hfew
 clear hfew
 have a11:=(HA.out _ HY.out).2
 by_cases qf:y.p.ln≤20∧y.p.tn≤30∧y.p.wn≤20
 case neg =>
  have hfw:=HF.out W1
  rw [show fewI y.p.ln y.p.tn y.p.wn=0 from if_neg qf] at hfw
  clear qf
  go_enter Tryz.func6,Tryz.ntmps6
  go_upto_region 1 with (fail)
  rw [HW1.out,HRE.out]
  go_wp2_with (first | ((with_reducible refine z1t HY.out ?_ ?_);rfl))
  refine hfw.mono ?_
  rintro e w2 ⟨rfl,h2⟩
  have HB2:=hid (HB1.out.trans (h2.mono HB1.out.size))
  clear h2 hfw a11
  go_wp2_with fail
  refine (z5a _ (HW.out _ HB2.out)).mono ?_
  rintro e wz ⟨rfl,hz⟩
  have HBZ:=hid (HB2.out.trans (hz.mono HB2.out.size))
  clear hz
  go_wp2_with fail
  go_ret
  exact⟨rfl,HBZ.out⟩
 have hfw:=HF.out W1
 rw [show fewI y.p.ln y.p.tn y.p.wn=1 from if_pos qf] at hfw
 have HQF:=hid qf
 clear qf HF
 by_cases qk:kn≤60
 case neg =>
  have hd1:decide (60<(kn:Int))=true:=decide_eq_true (by omega)
  have hd2:decide (60<kn)=true:=decide_eq_true (by omega)
  clear qk
  go_enter Tryz.func6,Tryz.ntmps6
  go_upto_region 1 with (fail)
  rw [HW1.out,HRE.out]
  go_wp2_with (first | ((with_reducible refine z1t HY.out ?_ ?_);rfl))
  refine hfw.mono ?_
  rintro e w2 ⟨rfl,h2⟩
  have HB2:=hid (HB1.out.trans (h2.mono HB1.out.size))
  have HY2:=hid (HY.out.later h2)
  clear h2 hfw a11
  have a11:=(HA.out _ HY2.out).2
  go_wp2_with fail
  refine (z5a _ (HW.out _ HB2.out)).mono ?_
  rintro e wz ⟨rfl,hz⟩
  have HBZ:=hid (HB2.out.trans (hz.mono HB2.out.size))
  clear hz
  go_wp2_with fail
  go_ret
  exact⟨rfl,HBZ.out⟩
 have hd1:decide (60<(kn:Int))=false:=decide_eq_false (by omega)
 have hd2:decide (60<kn)=false:=decide_eq_false (by omega)
 have HGD:Hid (∀ w',Below W.heap.size W w'→Calls Tryz.prog 8 #[.int .i64 4,.int .i64 4,.agg (pcs y.p)] w' fun e w''=>e=.returned (.bool (z0l 4 4 (y.p.pg L T M)))∧Below w'.heap.size w' w''):=hid fun w' hb=>rgood_p 4 4 y.p.pk y.p.od y.p.po y.p.lp y.p.ln y.p.lcp y.p.tp y.p.tn y.p.tcp y.p.wp y.p.wn y.p.wcp y.p.sk y.p.fr y.p.to y.p.q L T M w' (HRM.out w' hb) HOK.out (by have:=HQF.out;omega)
 obtain⟨P,hP⟩:∃ P,y.p.pg L T M=P:=⟨_,rfl⟩
 have HPE:=hid hP
 rw [hP] at HGD HOK
 clear hP
 cases hg:z0l 4 4 P with
 | false =>
  rw [hg] at HGD
  clear hg
  go_enter Tryz.func6,Tryz.ntmps6
  go_upto_region 1 with (fail)
  rw [HW1.out,HRE.out]
  go_wp2_with (first | ((with_reducible refine z1t HY.out ?_ ?_);rfl))
  refine hfw.mono ?_
  rintro e w2 ⟨rfl,h2⟩
  have HB2:=hid (HB1.out.trans (h2.mono HB1.out.size))
  have HY2:=hid (HY.out.later h2)
  clear h2 hfw a11
  have a11:=(HA.out _ HY2.out).2
  go_wp2_with ((with_reducible refine z1z HY2.out ?_ ?_ ?_);rfl;rfl)
  refine (HGD.out _ HB2.out).mono ?_
  rintro e w3 ⟨rfl,h3⟩
  have HB3:=hid (HB2.out.trans (h3.mono HB2.out.size))
  clear h3 a11
  go_wp2_with fail
  refine (z5a _ (HW.out _ HB3.out)).mono ?_
  rintro e wz ⟨rfl,hz⟩
  have HBZ:=hid (HB3.out.trans (hz.mono HB3.out.size))
  clear hz
  go_wp2_with fail
  go_ret
  exact⟨rfl,HBZ.out⟩
 | true =>
 rw [hg] at HGD
 have HG:=hid hg
 clear hg
 go_enter Tryz.func6,Tryz.ntmps6
 go_upto_region 1 with (fail)
 rw [HW1.out,HRE.out]
 go_wp2_with (first | ((with_reducible refine z1t HY.out ?_ ?_);rfl))
 refine hfw.mono ?_
 rintro e w2 ⟨rfl,h2⟩
 have HB2:=hid (HB1.out.trans (h2.mono HB1.out.size))
 have HB12:=hid h2
 have HY2:=hid (HY.out.later h2)
 clear h2 hfw a11
 have a11:=(HA.out _ HY2.out).2
 go_wp2_with ((with_reducible refine z1z HY2.out ?_ ?_ ?_);rfl;rfl)
 refine (HGD.out _ HB2.out).mono ?_
 rintro e w3 ⟨rfl,h3⟩
 have HB3:=hid (HB2.out.trans (h3.mono HB2.out.size))
 have HB13:=hid (HB12.out.trans (h3.mono HB12.out.size))
 have HY3:=hid (HY2.out.later h3)
 clear h3 a11 hd1 hd2 HGD HY2 HB2 HB12
 obtain⟨R,hRr⟩:∃ R,y.rt % 5=R:=⟨_,rfl⟩
 have HR5:Hid (0≤R∧R≤4):=hid (by have:=HRT.out;omega)
 have hrt0:0≤y.rt:=HRT.out.1
 have a10:=(HA.out _ HY3.out).1
 have HB4:=HB3
 have HB14:=HB13
 have hst0:=q0j (r1p y.p) L T M w3 (HW.out _ HB3.out) (q3w (HRM.out _ HB3.out)) (by rw [q1g,HPE.out];exact z9q HOK.out) (by have:=HQF.out;show y.p.ln≤400∧y.p.tn≤400∧y.p.wn≤400;omega)
 rw [q1g,HPE.out,z9v HG.out] at hst0
 have hst:Calls Tryz.prog 26 #[.agg #[.int .u8 1,.int .u32 1,.int .u32 0,.int .u8 0,.bool false,.int .u8 0,.int .u8 0,.int .u8 0,.int .i64 0,.int .u8 0,.int .u8 y.p.pk,.int .u32 y.p.od,.int .u8 y.p.po,.slice y.p.lp y.p.ln y.p.lcp,.slice y.p.tp y.p.tn y.p.tcp,.slice y.p.wp y.p.wn y.p.wcp,.int .u8 y.p.sk,.int .u8 y.p.fr,.int .u8 y.p.to,.int .i64 y.p.q]] w3 (q2h w3 (⟨1,P,false,0,0,0⟩:Crs) 0):=hst0
 clear hst0
 go_wp2_with (first | ((with_reducible refine wpList_load_ypl HY3.out ?_ ?_);rfl))
 refine hst.mono ?_
 rintro e w5 ⟨c,L3,T3,M3,rfl,hm3,hx3,hb5,_⟩
 go_upto_region 5 with ((with_reducible refine wpList_storen_cr c rfl ?_ ?_ ?_);rfl;rfl)
 have hbc:Below w5.heap.size w5 (w5.alloc (.cells (ccs c) 34)):=(Below.refl _ _).alloc (Nat.le_refl _) _
 have hcb:CB (w5.alloc (.cells (ccs c) 34)) w5.heap.size c:=CB.new w5 c
 obtain⟨w6,hw6⟩:∃ w6,w5.alloc (.cells (ccs c) 34)=w6:=⟨_,rfl⟩
 obtain⟨A,hA⟩:∃ A,w5.heap.size=A:=⟨_,rfl⟩
 rw [hw6] at hbc hcb
 rw [hw6,hA]
 rw [hA] at hcb
 have HB5:=hid (HB4.out.trans (hb5.mono HB4.out.size))
 have HB15:=hid (HB14.out.trans (hb5.mono HB14.out.size))
 have HB56:=hid hbc
 have HCB6:=hid hcb
 have HM5:Hid (CvM w5 c L3 T3 M3):=hid hm3
 have HX3:=hid hx3
 have HAE:=hid hA
 clear hbc hcb hw6 hA hb5 hm3 hx3 hst a10 HB4 HB14 HB3 HB13 HY3
 try simp only [Act.put]
 go_wp2_with fail
 refine (HI.out.new none 0 0 [] w6 (TL.empty _) (by omega) (fun t ht=>by cases ht) (fun t ht=>by cases ht)).mono ?_
 rintro e w8 ⟨Bj,Q,rfl,hju,hq,hb7⟩
 have HJ8:Hid (Ju w8 Bj [] Q):=hid hju
 have HFO8:Hid (FoN Ju W1 w8 A Bj Q c L3 T3 M3 []):=hid (FoN.start HB15.out HM5.out (HB56.out.trans (hb7.mono HB56.out.size)) (HCB6.out.later hb7) (by rw [HAE.out];exact Nat.le_refl _) HJ8.out (fun j hj=>Nat.le_trans HB56.out.size (hq j hj)) (fun hq'=>by have:=hq _ hq';have:=HCB6.out.lt;omega))
 clear hju hq hb7 HJ8 HCB6 HM5 HB56 HB15 HB5 HAE
 have HX0:Hid (c.x L3 T3 M3=crs0 P):=HX3
 have hRi:In64 R:=by have:=HR5.out;unfold In64;omega
 have HRI:=hid hRi
 clear hRi
 have HSA:Hid (∀ w',Below W.heap.size W w'→Calls Tryz.prog 24 #[.agg (pcs y.p),.int .i64 R] w' fun e w''=>e=.returned (.int .i64 (z4i P R))∧Below w'.heap.size w' w''):=hid fun w' hb=>by
  have:=q1q y.p L T M R w' (HW.out w' hb) (HRM.out w' hb) (by rw [HPE.out];exact HOK.out) (by have:=HQF.out;omega) HRI.out
  rw [HPE.out] at this
  exact this
 have hstb:0≤z4i P R∧z4i P R≤10000∧z1p (crs0 P) false 0 R≤z4i P R:=by
  have hgx:=z7k HG.out
  have hgl:=z8f hgx
  have hs:z0z (x1st P)=6+((z0o (x1st P)).length:Int):=if_pos hgx
  have:=z9i (x:=crs0 P) (retry:=R) HOK.out
  have ha:attP (crs0 P).P=attP P:=rfl
  rw [ha] at this
  unfold z4i
  rw [if_pos HG.out,hs,z8e HG.out]
  omega
 have HSTB:=hid hstb
 clear hstb
 have HWB:=hid fun w' (hb:Below W1.heap.size W1 w')=>HW.out w' (HB1.out.trans (hb.mono HB1.out.size))
 go_upto_block 0 with fail
 go_cut [7,9,10,11,12] from 50 (fun s7 s9 s10 s11 s12 wx=>s7=.int .i64 0∧∃ (i:Nat) (c:Cv) (L1:List Ln) (T1:List Tk) (M1:List Ln) (J:List Tc) (Q:Nat→Prop) (H:List Rx),Hid (FoN Ju W1 wx A Bj Q c L1 T1 M1 J)∧Hid (Fol P R K (c.x L1 T1 M1) J H i)∧Hid (SZ P J))
 case first =>
  go_wp2_with fail
  go_loopg [7,9] 300 (fun gk s7 s9 wr=>∃ (i:Nat) (c:Cv) (L1:List Ln) (T1:List Tk) (M1:List Ln) (J:List Tc) (Q:Nat→Prop) (H:List Rx),s7=.int .i64 0∧s9=.int .i64 (i:Int)∧gk+i=300∧Hid (FoN Ju W1 wr A Bj Q c L1 T1 M1 J)∧Hid (Fol P R K (c.x L1 T1 M1) J H i)∧Hid (SZ P J))
  case atStart=>exact⟨0,c,L3,T3,M3,[],Q,[x1st P],rfl,rfl,rfl,HFO8,hid (by rw [HX0.out];exact Fol.first HG.out HOK.out HR5.out K (x1st P) rfl),hid (SZ.nil P)⟩
  case round =>
  clear HFO8 HX0 HX3
  obtain⟨i,c,L1,T1,M1,J,Q,H,rfl,rfl,hgi,HFO,HFL,HSZ⟩:=hrel
  by_cases qn:(i:Int)<nn
  case neg =>
   have hd:decide ((i:Int)<nn)=false:=decide_eq_false qn
   clear qn
   go_wp2_with fail
   go_meet
   exact⟨rfl,i,c,L1,T1,M1,J,Q,H,HFO,HFL,HSZ⟩
  have hdn:decide ((i:Int)<nn)=true:=decide_eq_true qn
  obtain⟨hi,hcr,hcp⟩:=q3h HG.out HOK.out HR5.out HFL.out
  obtain⟨X,c',J',hfs⟩:=q1y HG.out HOK.out HR5.out HFL.out HSZ.out
  have HFS:=hid hfs
  have HJK:=hid (HFL.out.jok (show i≤159 by omega))
  have HCR:=hid hcr
  have HCS:=hid (z5d HFO.out.cm hcp HG.out)
  have hlt:(i:Int)<300:=by omega
  clear hfs hcr hcp
  go_wp2_with fail
  refine (HI.out.of_ wr Bj J Q 1 HFO.out.ju HJK.out ⟨by decide,by decide⟩).mono ?_
  rintro e w1 ⟨t,rfl,htc,htm,hb1⟩
  have HTC:Hid (t.c=tOf J):=hid htc
  have htk:=q2l HJK.out
  rw [← HTC.out] at htk
  have HTK:=hid htk
  have HTM1:=hid htm
  have HFO1:=hid (HFO.out.later HI.out hb1)
  clear htc htm hb1 htk
  go_upto_region 10 with ((with_reducible refine z3i t rfl ?_ ?_ ?_);rfl;rfl)
  have hbt:Below w1.heap.size w1 (w1.alloc (.cells #[.int .u32 t.c.id,.int .u32 t.c.sg,.int .u8 t.c.st,.bool t.c.cp,.bool t.c.dd,.slice t.p t.n t.m,.int .i64 t.c.fs,.int .i64 t.c.sz] 46)):=(Below.refl _ _).alloc (Nat.le_refl _) _
  have htb:=z0c w1 (.cells #[.int .u32 t.c.id,.int .u32 t.c.sg,.int .u8 t.c.st,.bool t.c.cp,.bool t.c.dd,.slice t.p t.n t.m,.int .i64 t.c.fs,.int .i64 t.c.sz] 46)
  obtain⟨w2,hw2⟩:∃ w2,w1.alloc (.cells #[.int .u32 t.c.id,.int .u32 t.c.sg,.int .u8 t.c.st,.bool t.c.cp,.bool t.c.dd,.slice t.p t.n t.m,.int .i64 t.c.fs,.int .i64 t.c.sz] 46)=w2:=⟨_,rfl⟩
  obtain⟨Bt,hBt⟩:∃ Bt,w1.heap.size=Bt:=⟨_,rfl⟩
  rw [hw2] at hbt htb
  rw [hw2,hBt]
  rw [hBt] at htb
  have HTB2:=hid htb
  have HFO2:=hid (HFO1.out.later HI.out hbt)
  have HTM2:=hid (HTM1.out.later hbt)
  clear hbt htb hw2 hBt HTM1 HFO1
  try simp only [Act.put]
  have hwu:IntKind.u32.wrap ((i:Int)+1)=(i:Int)+1:=IntWalk.u32_in _ (by omega)
  obtain⟨b0,b1,b2,b3,b4,b5,b6,b7⟩:=z0k HTB2.out
  have hn:=cr_next c L1 T1 M1 w2 (HWB.out _ HFO2.out.below) HFO2.out.cm HCR.out HCS.out t R ((i:Int)+1) HTM2.out HTK.out.1 (by have:=HTK.out.2.1;have:=HTM2.out.len;omega)
  go_wp2_with ((with_reducible refine z0f HFO2.out.cb ?_ ?_);rfl)
  refine hn.mono ?_
  rintro e w3 ⟨rfl,hb3⟩
  have HFO3:=hid (HFO2.out.later HI.out hb3)
  have HTB3:=hid (z0b HTB2.out hb3)
  clear hb3 hn b0 b1 b2 b3 b4 b5 b6 b7 HTB2 HFO2 hwu HTM2
  go_upto_region 11 with ((with_reducible refine z3j (rvK (z2m (c.x L1 T1 M1) t.c R ((i:Int)+1))) rfl ?_ ?_ ?_);rfl;rfl)
  have hbr:Below w3.heap.size w3 (w3.alloc (.cells (rcs (rvK (z2m (c.x L1 T1 M1) t.c R ((i:Int)+1)))) 42)):=(Below.refl _ _).alloc (Nat.le_refl _) _
  have hrb:=RB.new w3 (rvK (z2m (c.x L1 T1 M1) t.c R ((i:Int)+1)))
  obtain⟨w4,hw4⟩:∃ w4,w3.alloc (.cells (rcs (rvK (z2m (c.x L1 T1 M1) t.c R ((i:Int)+1)))) 42)=w4:=⟨_,rfl⟩
  obtain⟨Br,hBr⟩:∃ Br,w3.heap.size=Br:=⟨_,rfl⟩
  rw [hw4] at hbr hrb
  rw [hw4,hBr]
  rw [hBr] at hrb
  have HRB4:=hid hrb
  have HB34:=hid hbr
  have HBR:=hid hBr
  clear hbr hrb hw4 hBr
  try simp only [Act.put]
  obtain⟨kk,hkk⟩:∃ kk:Bool,kk=decide (z3x K i=true∧c.tx≠0∧t.c.dd=false∧c.bk=false):=⟨_,rfl⟩
  have HKK:=hid hkk
  have hXT:kk=true→X=q4b c.tx:=fun h=>by
   rw [hkk,decide_eq_true_eq] at h
   rw [HFS.out.x]
   unfold z1u
   rw [if_pos ⟨h.1,h.2.1,by rw [← HTC.out];exact h.2.2.1,h.2.2.2⟩]
   rfl
  have hXF:kk=false→X=z2m (c.x L1 T1 M1) t.c R ((i:Int)+1):=fun h=>by
   rw [hkk,decide_eq_false_iff_not] at h
   rw [HFS.out.x]
   unfold z1u
   rw [if_neg (fun e=>h ⟨e.1,e.2.1,by rw [HTC.out];exact e.2.2.1,e.2.2.2⟩),← HTC.out]
  have HXT:=hid hXT
  have HXF:=hid hXF
  have HYB4:=hid (HY.out.later (HFO3.out.below.trans (HB34.out.mono HFO3.out.below.size)))
  have HKL4:=hid (HK.out w4 (HB1.out.trans ((HFO3.out.below.trans (HB34.out.mono HFO3.out.below.size)).mono HB1.out.size)))
  clear hkk hXT hXF
  go_cut [98] from 50 to 116 (fun s wx=>s=.bool kk∧wx=w4)
  case first =>
   have a11:=(HA.out _ HYB4.out).2
   have HCB4:=hid (HFO3.out.cb.later HB34.out)
   have hbk:=HCB4.out.at.2.1
   have htx:=HCB4.out.at.2.2.2.2
   obtain⟨_,_,_,_,b4,_,_,_⟩:=z0k (z0b HTB3.out HB34.out)
   by_cases q1:i<kn
   case neg =>
    have hd:decide ((i:Int)<(kn:Int))=false:=decide_eq_false (by omega)
    have hd':decide (i<kn)=false:=decide_eq_false q1
    have hkf:z3x K i=false:=by
     unfold z3x
     rw [List.getD,List.getElem?_eq_none (by have:=HKL4.out.len;omega)]
     rfl
    have HKF:=hid hkf
    clear hkf
    go_wp2_with fail
    go_meet
    exact⟨congrArg Value.bool (HKK.out.trans (decide_eq_false fun h=>by rw [HKF.out] at h;cases h.1)).symm,rfl⟩
   have hd:decide ((i:Int)<(kn:Int))=true:=decide_eq_true (by omega)
   have hd':decide (i<kn)=true:=decide_eq_true q1
   have hiz:(i:Int)<(kn:Int):=by omega
   have hcap:=HKL4.out.cap
   obtain⟨bk,ok,hkp,_,hkc⟩:=HKL4.out.cell (by omega)
   have hkl:=hkc i q1 0 (.bool (K.getD i false)) rfl
   simp only [Nat.mul_one,Nat.add_zero] at hkl
   obtain⟨kb,hkb⟩:∃ kb,K.getD i false=kb:=⟨_,rfl⟩
   rw [hkb] at hkl
   have HKB:Hid (z3x K i=kb):=hid hkb
   rw [hkp] at a11
   clear hkc hkb hkp
   cases kb with
   | false =>
    go_wp2_with fail
    go_meet
    exact⟨congrArg Value.bool (HKK.out.trans (decide_eq_false fun h=>by rw [HKB.out] at h;cases h.1)).symm,rfl⟩
   | true =>
    cases q2:(c.tx != 0) with
    | false =>
     have HQ2:=hid q2
     go_wp2_with fail
     go_meet
     exact⟨congrArg Value.bool (HKK.out.trans (decide_eq_false fun h=>by have:=HQ2.out;rw [bne_eq_false_iff_eq] at this;exact h.2.1 this)).symm,rfl⟩
    | true =>
     have HQ2:Hid (c.tx≠0):=hid (bne_iff_ne.1 q2)
     cases q3:t.c.dd with
     | true =>
      have HQ3:=hid q3
      rw [q3] at b4
      clear q3
      go_wp2_with fail
      go_meet
      exact⟨congrArg Value.bool (HKK.out.trans (decide_eq_false fun h=>by have:=h.2.2.1;rw [HQ3.out] at this;cases this)).symm,rfl⟩
     | false =>
      have HQ3:=hid q3
      rw [q3] at b4
      clear q3
      cases q4:c.bk with
      | true =>
       have HQ4:=hid q4
       rw [q4] at hbk
       clear q4
       go_wp2_with fail
       go_meet
       exact⟨congrArg Value.bool (HKK.out.trans (decide_eq_false fun h=>by have:=h.2.2.2;rw [HQ4.out] at this;cases this)).symm,rfl⟩
      | false =>
       have HQ4:=hid q4
       rw [q4] at hbk
       clear q4
       go_wp2_with fail
       go_meet
       exact⟨congrArg Value.bool (HKK.out.trans (decide_eq_true ⟨HKB.out,HQ2.out,HQ3.out,HQ4.out⟩)).symm,rfl⟩
  case rest =>
  obtain⟨rfl,hwc⟩:=hcut
  subst hwc
  go_upto_if 98 with fail
  go_cut [] from 50 to 116 (fun wx=>Hid (RB wx Br (rvK X))∧Hid (Below w3.heap.size w3 wx))
  case first =>
   cases kk with
   | true =>
    have htx:=(HFO3.out.cb.later HB34.out).at.2.2.2.2
    have HXE:=hid (HXT.out rfl)
    clear HXT HXF HKK
    go_wp2_with ((with_reducible refine z1a (rvK (q4b c.tx)) HRB4.out ?_ ?_ ?_);rfl;rfl)
    go_meet
    exact⟨hid (by rw [HXE.out];exact HRB4.out.set _),hid (below_setRow HB34.out (by rw [HBR.out];exact Nat.le_refl _) _)⟩
   | false =>
    have HXE:=hid (HXF.out rfl)
    clear HXT HXF HKK
    go_wp2_with fail
    go_meet
    exact⟨hid (by rw [HXE.out];exact HRB4.out),HB34⟩
  case rest =>
  obtain⟨HRX,HB3c⟩:=hcut
  clear HRB4 HB34 HKK HXT HXF HYB4 HKL4 HTB3
  have HFOc:=hid (HFO3.out.later HI.out HB3c.out)
  have HQB:Hid (¬ Q Br):=hid fun hq=>by
   have:=HFO3.out.lt2 HI.out _ (.inr (.inl hq))
   have:=HBR.out
   omega
  have HAB:Hid (A≠Br):=hid fun e=>by
   have:=HFO3.out.cb.lt
   have:=HBR.out
   omega
  have a0:wc.cell? ⟨Br,0,none⟩=some (.int .u8 X.k):=HRX.out.at.1
  obtain⟨k9,hk9⟩:∃ k9,X.k=k9:=⟨_,rfl⟩
  have HK9:=hid hk9
  rw [hk9] at a0
  clear hk9
  by_cases q9:k9=9
  case pos =>
   have q9b:(k9==9)=true:=by rw [q9];rfl
   clear q9
   go_wp2_with fail
   go_meet
   exact⟨rfl,i,c,L1,T1,M1,J,Q,H,HFOc,HFL,HSZ⟩
  have q9b:(k9==9)=false:=beq_false_of_ne q9
  have HN9:Hid (X.k≠9):=hid (by rw [HK9.out];exact q9)
  clear q9
  have hap:=q0l c L1 T1 M1 wc (HWB.out _ HFOc.out.below) HFOc.out.cm HCR.out HCS.out (rvK X) [] [] [] (q2m X wc) (by rw [z7c HFS.out.pg];exact HFS.out.ok) ⟨Nat.zero_le _,Nat.zero_le _,Nat.zero_le _⟩
  rw [z7c HFS.out.pg,HFS.out.app] at hap
  go_wp2_with (first | ((with_reducible refine z0f HFOc.out.cb ?_ ?_);rfl) | ((with_reducible refine z0j HRX.out ?_ ?_);rfl))
  refine hap.mono ?_
  rintro e w5 ⟨d,Ld,Td,Md,rfl,hmd,hxd,hb5,hnew⟩
  have HFO5:=hid (HFOc.out.later HI.out hb5)
  have HR5x:=hid (HRX.out.later hb5)
  have hoff:Off (fblk A Q (.slice none 0 0)) d.p:=hnew.off (fun j hj=>HFOc.out.lt2 HI.out j hj)
  have HFO6:=hid (HFO5.out.put HI.out hmd hoff)
  have HR6x:=hid (RB.chg (S:=fun k=>k=A) (w':=w5.setRow A (ccs d)) HR5x.out ⟨rfl,rfl,rfl,by simp [World.setRow],fun k _ hn=>setRow_other _ _ _ _ hn⟩ (fun e=>HAB.out e.symm))
  have HXD:=hid hxd
  have HCSd:=hid (z5d hmd (by rw [hxd];exact HFS.out.cp) HG.out)
  clear hmd hxd hb5 hnew hoff hap HRX HFOc HFO3 HB3c
  go_upto_region 15 with ((with_reducible refine z0m d HFO5.out.cb ?_ ?_ ?_);rfl;rfl)
  obtain⟨w6,hw6⟩:∃ w6,w5.setRow A (ccs d)=w6:=⟨_,rfl⟩
  rw [hw6] at HFO6 HR6x
  rw [hw6]
  clear hw6 HFO5 HR5x
  try simp only [Act.put]
  obtain⟨k,hk⟩:∃ k,X.k=k:=⟨_,rfl⟩
  have HKE:=hid hk
  have a0:w6.cell? ⟨Br,0,none⟩=some (.int .u8 k):=by rw [← hk];exact HR6x.out.at.1
  have hk2:decide (2≤k)=true:=decide_eq_true (by rw [← hk];exact HFS.out.k2)
  have hkb:2≤k∧k≤9:=⟨by rw [← hk];exact HFS.out.k2,by rw [← hk];exact HFS.out.k9⟩
  clear hk
  obtain⟨b7k,hb7⟩:∃ b7k:Bool,decide (k≤7)=b7k:=⟨_,rfl⟩
  have HB7:=hid hb7
  have HJ0:=hid (fun (h:b7k=true)=>HFS.out.jn (by rw [HKE.out];exact of_decide_eq_true (by rw [hb7];exact h)))
  have HJS:=hid (fun (h:b7k=false)=>HFS.out.same (by rw [HKE.out];exact of_decide_eq_false (by rw [hb7];exact h)))
  go_upto_if 113 with fail
  cases b7k with
  | true =>
   have hj0:=HJ0.out rfl
   have hja:=HI.out.apply w6 Bj J Q 0 (rvK X) [] [] [] (HWB.out _ HFO6.out.below) HFO6.out.ju HJK.out in0 (q2m X w6) (by rw [z7c HFS.out.pg];exact HFS.out.ok) ⟨Nat.zero_le _,Nat.zero_le _,Nat.zero_le _⟩
   rw [z7c HFS.out.pg,hj0] at hja
   clear hj0 HJ0 HJS
   go_wp2_with ((with_reducible refine z0j HR6x.out ?_ ?_);rfl)
   refine hja.mono ?_
   rintro e w7 ⟨rfl,hact⟩
   obtain⟨Q',hfo7,_,htu⟩:=HFO6.out.acted hact
   have HFO7:=hid hfo7
   have HR7x:=hid ((htu.block Br HR6x.out.lt HQB.out).trans HR6x.out)
   clear hact hfo7 htu hja a0
   have HFOc:=HFO7
   go_wp2_with fail
   go_roundg (300-(i+1))
   case measure=>omega
   case rel=>exact⟨i+1,d,Ld,Td,Md,J',Q',H ++ [X],rfl,by go_num,by omega,HFOc,hid (by rw [HXD.out];exact HFS.out.go HN9.out),hid HFS.out.out.sz⟩
  | false =>
   have HJE:=hid (HJS.out rfl)
   clear HJ0 HJS
   have HFOc:Hid (FoN Ju W1 w6 A Bj Q d Ld Td Md J'):=by rw [HJE.out];exact HFO6
   go_wp2_with fail
   go_roundg (300-(i+1))
   case measure=>omega
   case rel=>exact⟨i+1,d,Ld,Td,Md,J',Q,H ++ [X],rfl,by go_num,by omega,HFOc,hid (by rw [HXD.out];exact HFS.out.go HN9.out),hid HFS.out.out.sz⟩
 case rest =>
 clear HFO8 HX0 HX3
 obtain⟨rfl,i,c,L1,T1,M1,J,Q,H,HFO,HFL,HSZ⟩:=hcut
 obtain⟨hi,hcr,hcp⟩:=q3h HG.out HOK.out HR5.out HFL.out
 obtain⟨_,_,_,hfs⟩:=q1y HG.out HOK.out HR5.out HFL.out HSZ.out
 have hgc:=hfs.gp
 have hcs:=z5d HFO.out.cm hcp HG.out
 have hjk:=HFL.out.jok (show i≤159 by omega)
 have HTS0:Hid (TsOk J (170+0) (10000*(170+((0:Nat):Int)))):=hid (HFL.out.ts.mono (by omega) (by omega))
 obtain⟨m,hsi,_⟩:=HFL.out.si
 have hca:=crash_any HG.out HOK.out HR5.out hsi HSZ.out hjk
 obtain⟨c0,hc0⟩:∃ c0,c.x L1 T1 M1=c0:=⟨_,rfl⟩
 rw [hc0] at hcr hcp hgc hca
 have HC0:=hid hc0
 have HCR:=hid hcr
 have HCP:=hid hcp
 have HGC:=hid hgc
 have HCS:=hid hcs
 have HJK:=hid hjk
 have HCA:=hid hca
 clear hfs hsi hc0 hcr hcp hgc hcs hjk hca HSZ HFL
 go_wp2_with fail
 refine (HI.out.of_ wc Bj J Q 1 HFO.out.ju HJK.out ⟨by decide,by decide⟩).mono ?_
 rintro e w1 ⟨t,rfl,htc,htm,hb1⟩
 have HTC:Hid (t.c=tOf J):=hid htc
 have HTM1:=hid htm
 have HFO1:=hid (HFO.out.later HI.out hb1)
 clear htc htm hb1
 go_upto_region 18 with ((with_reducible refine z3i t rfl ?_ ?_ ?_);rfl;rfl)
 have hbt:Below w1.heap.size w1 (w1.alloc (.cells #[.int .u32 t.c.id,.int .u32 t.c.sg,.int .u8 t.c.st,.bool t.c.cp,.bool t.c.dd,.slice t.p t.n t.m,.int .i64 t.c.fs,.int .i64 t.c.sz] 46)):=(Below.refl _ _).alloc (Nat.le_refl _) _
 have htb:=z0c w1 (.cells #[.int .u32 t.c.id,.int .u32 t.c.sg,.int .u8 t.c.st,.bool t.c.cp,.bool t.c.dd,.slice t.p t.n t.m,.int .i64 t.c.fs,.int .i64 t.c.sz] 46)
 obtain⟨w2,hw2⟩:∃ w2,w1.alloc (.cells #[.int .u32 t.c.id,.int .u32 t.c.sg,.int .u8 t.c.st,.bool t.c.cp,.bool t.c.dd,.slice t.p t.n t.m,.int .i64 t.c.fs,.int .i64 t.c.sz] 46)=w2:=⟨_,rfl⟩
 obtain⟨Bt,hBt⟩:∃ Bt,w1.heap.size=Bt:=⟨_,rfl⟩
 rw [hw2] at hbt htb
 rw [hw2,hBt]
 rw [hBt] at htb
 have HTB2:=hid htb
 have HFO2:=hid (HFO1.out.later HI.out hbt)
 have HTM2:=hid (HTM1.out.later hbt)
 have HQT:Hid (¬ Q Bt):=hid fun hq=>by
  have:=HFO1.out.lt2 HI.out _ (.inr (.inl hq))
  omega
 have HAT:Hid (A≠Bt):=hid fun e=>by
  have:=HFO1.out.cb.lt
  omega
 have HW1T:Hid (W1.heap.size≤Bt):=hid (by rw [← hBt];exact HFO1.out.below.size)
 clear hbt htb hw2 hBt HTM1 HFO1
 try simp only [Act.put]
 obtain⟨b0,b1,b2,b3,b4,b5,b6,b7⟩:=z0k HTB2.out
 have y0:=fun q:After w2=>z1y q b0
 have y1:=fun q:After w2=>z1y q b1
 have y2:=fun q:After w2=>z1y q b2
 have y3:=fun q:After w2=>z1y q b3
 have y4:=fun q:After w2=>z1y q b4
 have y5:=fun q:After w2=>z1y q b5
 have y6:=fun q:After w2=>z1y q b6
 have y7:=fun q:After w2=>z1y q b7
 have htk:=q2l HJK.out
 rw [← HTC.out] at htk
 have HTKs:=hid htk.2.2
 clear htk
 have hc1:=fun (q:After w2)=>q0b c L1 T1 M1 t R q.w (HWB.out _ (HFO2.out.below.trans (q.h.mono HFO2.out.below.size))) (PgM.later HFO2.out.cm q.h) (by rw [HC0.out];exact HCR.out) HCS.out HRI.out HTKs.out
 have hhe:z1p (c.x L1 T1 M1) t.c.dd t.c.sz R=hdC c0 J R:=by rw [HC0.out,HTC.out];rfl
 rw [hhe] at hc1
 obtain⟨hv,hhv⟩:∃ hv,hdC c0 J R=hv:=⟨_,rfl⟩
 rw [hhv] at hc1
 have HHV:=hid hhv
 clear hhe hhv
 refine z1g (by kernel_rfl) (by kernel_rfl) ?_
 repeat (first | (go_big_quiet_want;(with_reducible refine z5o HFO2.out.cb ?_ ?_);rfl;go_simp;go_big_quiet_on) | go_big_quiet_step ((go_at_call 22;with_reducible exact z0w _ (hc1 _))))
 refine wpQuiet_nil ?_
 intro w3 hw'
 obtain⟨⟨wq,h6⟩,hw''⟩:=hw'
 subst hw''
 have HFO3:=hid (HFO2.out.later HI.out h6)
 have HTM3:=hid (HTM2.out.later h6)
 have HTB3:=hid (z0b HTB2.out h6)
 try dsimp only at HFO3 HTM3 HTB3
 clear hc1 y0 y1 y2 y3 y4 y5 y6 y7 b0 b1 b2 b3 b4 b5 b6 b7 h6 HFO2 HTM2 HTB2
 obtain⟨r0,hur,hr0⟩:=HCA.out.ur
 have HUR0:=hid hur
 clear hur
 go_wp2_with fail
 go_loopg [7,14,16,18] 20 (fun gk s7 s14 s16 s18 wr=>∃ (j r:Nat) (c2:Cv) (L2:List Ln) (T2:List Tk) (M2:List Ln) (J2:List Tc) (Q2:Nat→Prop) (tk:Int) (t2:Tv),s7=.int .i64 0∧s14=.bool (decide (0<r))∧s16=.int .i64 tk∧s18=.int .i64 (j:Int)∧j+r≤7∧gk+j=20∧(0≤tk∧tk≤22*(j:Int))∧Hid (FoN Ju W1 wr A Bj Q2 c2 L2 T2 M2 J2)∧Hid (UR c0 J (c2.x L2 T2 M2) J2 tk r)∧Hid (TsOk J2 (170+j) (10000*(170+j)))∧Hid (t2.c=tOf J2)∧Hid (TvM wr t2)∧Hid (wr.heap[Bt]?=some (.cells #[.int .u32 t2.c.id,.int .u32 t2.c.sg,.int .u8 t2.c.st,.bool t2.c.cp,.bool t2.c.dd,.slice t2.p t2.n t2.m,.int .i64 t2.c.fs,.int .i64 t2.c.sz] 46 (0,0)))∧Hid (¬ Q2 Bt))
 case atStart=>exact⟨0,r0,c,L1,T1,M1,J,Q,0,t,rfl,congrArg Value.bool (ur_open HUR0.out),rfl,rfl,by omega,rfl,⟨by omega,by omega⟩,HFO3,hid (by rw [HC0.out];exact HUR0.out),HTS0,HTC,HTM3,HTB3,HQT⟩
 case round =>
 clear HFO3 HTM3 HTB3 HQT HUR0 hr0
 obtain⟨j,r,c2,L2,T2,M2,J2,Q2,tk,t2,rfl,rfl,rfl,rfl,hjr,hgj,htk,HFO,HUR,HTS,HTC2,HTM2,HTB2,HNQ⟩:=hrel
 cases r with
 | zero =>
  obtain⟨e1,e2,e3⟩:=ur_shut HUR.out
  have HE1:=hid e1
  have hcs:=z5d HFO.out.cm (show (c2.x L2 T2 M2).P=P by rw [e1];exact HCP.out) HG.out
  have hca:=HCA.out
  have hcl:Crok (z5e c0):=⟨HCR.out.sg,HCR.out.P,HCR.out.st,HCR.out.tr,by show (0:Int)≤0∧(0:Int)≤4294967295;omega⟩
  have hhc:=q0b c2 L2 T2 M2 tv0 R wr (HWB.out _ HFO.out.below) HFO.out.cm (by rw [e1];exact hcl) hcs HRI.out ⟨by decide,by decide⟩
  rw [e1] at hhc
  have hhc':Calls Tryz.prog 22 #[.agg (ccs c2),.agg #[.int .u32 0,.int .u32 0,.int .u8 0,.bool false,.bool false,.slice none 0 0,.int .i64 0,.int .i64 0],.int .i64 R] wr fun e w'=>e=.returned (.int .i64 (z1p (z5e c0) false 0 R))∧Below wr.heap.size wr w':=hhc
  clear hhc
  have g1:=hca.took
  have g2:=hca.after
  have g3:=hca.most
  obtain⟨g4,g5,g6,g7,g8⟩:=hca.nn
  rw [← e3,HHV.out] at g1
  rw [HHV.out,← HTC.out] at g2
  rw [HHV.out] at g4 g5
  rw [← HTC.out] at g6 g7
  obtain⟨g9,g10,g11⟩:=HSTB.out
  obtain⟨av,hav⟩:∃ av,z1p (z5e c0) false 0 R=av:=⟨_,rfl⟩
  rw [hav] at hhc' g2 g3 g8
  obtain⟨ST,hST⟩:∃ ST,z4i P R=ST:=⟨_,rfl⟩
  rw [hST] at HSA g9 g10 g11
  obtain⟨tz,htz⟩:∃ tz,t.c.sz=tz:=⟨_,rfl⟩
  rw [htz] at g2 g6 g7
  have d1:decide (tk≤hv)=true:=decide_eq_true g1
  have d2:decide (av≤hv+tz)=true:=decide_eq_true g2
  have d3:decide (av≤ST)=true:=decide_eq_true (by omega)
  clear e1 e2 e3 hcs hca hcl hav hST HTS HUR HTM2 HNQ g1 g2 g3 g9 g11
  go_wp2_with ((with_reducible refine z0f HFO.out.cb ?_ ?_);rfl)
  refine hhc'.mono ?_
  rintro e w4 ⟨rfl,hb4⟩
  have HB4:=hid (HFO.out.below.trans (hb4.mono HFO.out.below.size))
  have HY4:=hid (HY.out.later HB4.out)
  clear hb4 hhc' HFO
  go_wp2_with ((with_reducible refine z1z HY4.out ?_ ?_ ?_);rfl;rfl)
  have HBW4:=hid (HB1.out.trans (HB4.out.mono HB1.out.size))
  refine (HSA.out _ HBW4.out).mono ?_
  rintro e w5 ⟨rfl,hb5⟩
  have HB5:=hid (HBW4.out.trans (hb5.mono HBW4.out.size))
  clear hb5 HY4
  go_wp2_with fail
  refine (z5a _ (HW.out _ HB5.out)).mono ?_
  rintro e wz ⟨rfl,hz⟩
  have HBZ:=hid (HB5.out.trans (hz.mono HB5.out.size))
  clear hz
  go_wp2_with fail
  go_ret
  exact⟨rfl,HBZ.out⟩
 | succ r =>
 obtain⟨X,c',J',hX,hu⟩:=ur_step HGC.out HUR.out
 have hc2:=ur_same HUR.out
 have HJ2:Hid (JOk J2):=hid (HTS.out.mono (by omega) (by omega))
 have hcs:=z5d HFO.out.cm (show (c2.x L2 T2 M2).P=P by rw [hc2];exact HCP.out) HG.out
 have hto:=q2l HJ2.out
 rw [← HTC2.out] at hto
 have hun:=cr_undo t2 wr HTM2.out hto.1 (by have:=HTM2.out.len;omega)
 rw [show z4x t2.c=X by rw [HTC2.out,hX]] at hun
 have HU:=hid hu
 have HC2:=hid hc2
 have HCS2:=hid hcs
 have hjz:(j:Int)<20:=by omega
 clear hX hu hc2 hcs hto
 obtain⟨b0,b1,b2,b3,b4,b5,b6,b7⟩:=z0k HTB2.out
 go_wp2_with fail
 refine hun.mono ?_
 rintro e w1 ⟨rfl,hb1⟩
 have HFO1:=hid (HFO.out.later HI.out hb1)
 have HTB1:=hid (z0b HTB2.out hb1)
 clear hun hb1 b0 b1 b2 b3 b4 b5 b6 b7 HTB2 HFO HTM2
 go_upto_region 23 with ((with_reducible refine z3j (rvK X) rfl ?_ ?_ ?_);rfl;rfl)
 have hbr:Below w1.heap.size w1 (w1.alloc (.cells (rcs (rvK X)) 42)):=(Below.refl _ _).alloc (Nat.le_refl _) _
 have hrb:=RB.new w1 (rvK X)
 obtain⟨w2,hw2⟩:∃ w2,w1.alloc (.cells (rcs (rvK X)) 42)=w2:=⟨_,rfl⟩
 obtain⟨Br,hBr⟩:∃ Br,w1.heap.size=Br:=⟨_,rfl⟩
 rw [hw2] at hbr hrb
 rw [hw2,hBr]
 rw [hBr] at hrb
 have HQB:Hid (¬ Q2 Br):=hid fun hq=>by
  have:=HFO1.out.lt2 HI.out _ (.inr (.inl hq))
  omega
 have HAB:Hid (A≠Br):=hid fun e=>by
  have:=HFO1.out.cb.lt
  omega
 have HBB:Hid (Bt<Br):=hid (by rw [← hBr];exact z0i HTB1.out)
 have HFO2:=hid (HFO1.out.later HI.out hbr)
 have HTB2:=hid (z0b HTB1.out hbr)
 have HR2:=hid hrb
 clear hbr hrb hw2 hBr HFO1 HTB1
 try simp only [Act.put]
 have hap:=q0l c2 L2 T2 M2 w2 (HWB.out _ HFO2.out.below) HFO2.out.cm (by rw [HC2.out];exact HCR.out) HCS2.out (rvK X) [] [] [] (q2m X w2) (by rw [z7c HU.out.pg];exact HU.out.ok) ⟨Nat.zero_le _,Nat.zero_le _,Nat.zero_le _⟩
 rw [z7c HU.out.pg,HU.out.app] at hap
 go_wp2_with (first | ((with_reducible refine z0f HFO2.out.cb ?_ ?_);rfl) | ((with_reducible refine z0j HR2.out ?_ ?_);rfl))
 refine hap.mono ?_
 rintro e w3 ⟨d,Ld,Td,Md,rfl,hmd,hxd,hb3,hnew⟩
 have HFO3:=hid (HFO2.out.later HI.out hb3)
 have HR3:=hid (HR2.out.later hb3)
 have HTB3:=hid (z0b HTB2.out hb3)
 have hoff:Off (fblk A Q2 (.slice none 0 0)) d.p:=hnew.off (fun j hj=>HFO2.out.lt2 HI.out j hj)
 have HOT:Hid (Off (fun j=>j=Bt) d.p):=hid (hnew.off fun j hj=>by rw [hj];exact z0i HTB2.out)
 have HFO4:=hid (HFO3.out.put HI.out hmd hoff)
 have HR4:=hid (RB.chg (S:=fun k=>k=A) (w':=w3.setRow A (ccs d)) HR3.out ⟨rfl,rfl,rfl,by simp [World.setRow],fun k _ hn=>setRow_other _ _ _ _ hn⟩ (fun e=>HAB.out e.symm))
 have HTB4:Hid ((w3.setRow A (ccs d)).heap[Bt]?=some (.cells #[.int .u32 t2.c.id,.int .u32 t2.c.sg,.int .u8 t2.c.st,.bool t2.c.cp,.bool t2.c.dd,.slice t2.p t2.n t2.m,.int .i64 t2.c.fs,.int .i64 t2.c.sz] 46 (0,0))):=hid ((setRow_other _ _ _ _ (fun e=>HAT.out e.symm)).trans HTB3.out)
 have HXD:=hid hxd
 clear hmd hxd hb3 hnew hoff hap HR2 HFO2 HTB2
 go_upto_region 24 with ((with_reducible refine z0m d HFO3.out.cb ?_ ?_ ?_);rfl;rfl)
 obtain⟨w4,hw4⟩:∃ w4,w3.setRow A (ccs d)=w4:=⟨_,rfl⟩
 rw [hw4] at HFO4 HR4 HTB4
 rw [hw4]
 clear hw4 HFO3 HR3 HTB3
 try simp only [Act.put]
 have hja:=HI.out.apply w4 Bj J2 Q2 0 (rvK X) [] [] [] (HWB.out _ HFO4.out.below) HFO4.out.ju HJ2.out in0 (q2m X w4) (by rw [z7c HU.out.pg];exact HU.out.ok) ⟨Nat.zero_le _,Nat.zero_le _,Nat.zero_le _⟩
 rw [z7c HU.out.pg,HU.out.jn] at hja
 go_wp2_with ((with_reducible refine z0j HR4.out ?_ ?_);rfl)
 refine hja.mono ?_
 rintro e w5 ⟨rfl,hact⟩
 obtain⟨Q',hfo5,hqq,htu⟩:=HFO4.out.acted hact
 have HFO5:=hid hfo5
 have HR5x:Hid (RB w5 Br (rvK X)):=hid ((htu.block Br HR4.out.lt HQB.out).trans HR4.out)
 have HTB5:=hid ((htu.block Bt (z0i HTB4.out) HNQ.out).trans HTB4.out)
 have HNQ':Hid (¬ Q' Bt):=hid fun hq=>by
  rcases hqq _ hq with g | g
  · exact HNQ.out g
  · have:=z0i HTB4.out;omega
 clear hact hfo5 hqq htu hja HFO4 HR4 HTB4 HNQ HQB
 obtain⟨z,hz⟩:∃ z,z0z X=z:=⟨_,rfl⟩
 have hsx:=fun w (hw:Words w)=>z9f (rvK X) [] [] [] w hw (q2m X w) (by rw [z7c HU.out.pg];exact HU.out.ok) ⟨Nat.zero_le _,Nat.zero_le _,Nat.zero_le _⟩
 rw [z7c HU.out.pg,hz] at hsx
 have hz22:0≤z∧z≤22:=by rw [← hz];exact HU.out.pos
 have HNX:Hid (UR c0 J c' J' (tk+z) r):=hid (by rw [← hz];exact HU.out.nx)
 clear hz
 go_wp2_with ((with_reducible refine z0j HR5x.out ?_ ?_);rfl)
 refine (hsx _ (HWB.out _ HFO5.out.below)).mono ?_
 rintro e w6 ⟨rfl,hb6⟩
 have HFO6:=hid (HFO5.out.later HI.out hb6)
 have HTB6:=hid (z0b HTB5.out hb6)
 clear hb6 hsx HFO5 HR5x HTB5
 have HTS':Hid (TsOk J' (170+(j+1)) (10000*(170+((j+1:Nat):Int)))):=hid (by
  have h1:=TsOk.app (X:=X) (at_:=0) HTS.out ⟨by omega,by omega⟩ HU.out.ok in0
  rw [HU.out.jn] at h1
  exact h1.mono (by omega) (by omega))
 have HJ':Hid (JOk J'):=hid (HTS'.out.mono (by omega) (by omega))
 go_wp2_with fail
 refine (HI.out.of_ w6 Bj J' Q' 1 HFO6.out.ju HJ'.out ⟨by decide,by decide⟩).mono ?_
 rintro e w7 ⟨u,rfl,huc,hum,hb7⟩
 have HUC:Hid (u.c=tOf J'):=hid huc
 have HFO7:=hid (HFO6.out.later HI.out hb7)
 have HTB7:=hid (z0b HTB6.out hb7)
 have HFO8:=hid (FoN.tbox HI.out HFO7.out HOT.out HNQ'.out HAT.out HW1T.out #[.int .u32 u.c.id,.int .u32 u.c.sg,.int .u8 u.c.st,.bool u.c.cp,.bool u.c.dd,.slice u.p u.n u.m,.int .i64 u.c.fs,.int .i64 u.c.sz])
 have HUM8:=hid (tv_apart hum HTB7.out #[.int .u32 u.c.id,.int .u32 u.c.sg,.int .u8 u.c.st,.bool u.c.cp,.bool u.c.dd,.slice u.p u.n u.m,.int .i64 u.c.fs,.int .i64 u.c.sz])
 have HTB8:Hid ((w7.setRow Bt #[.int .u32 u.c.id,.int .u32 u.c.sg,.int .u8 u.c.st,.bool u.c.cp,.bool u.c.dd,.slice u.p u.n u.m,.int .i64 u.c.fs,.int .i64 u.c.sz]).heap[Bt]?=some (.cells #[.int .u32 u.c.id,.int .u32 u.c.sg,.int .u8 u.c.st,.bool u.c.cp,.bool u.c.dd,.slice u.p u.n u.m,.int .i64 u.c.fs,.int .i64 u.c.sz] 46 (0,0))):=hid (setRow_heap _ _ _ _ _ _ HTB7.out)
 clear huc hum hb7 HFO6 HTB6
 go_upto_region 21 with ((with_reducible refine wpList_store_tx u HTB7.out rfl ?_ ?_ ?_);rfl;rfl)
 obtain⟨w8,hw8⟩:∃ w8,w7.setRow Bt #[.int .u32 u.c.id,.int .u32 u.c.sg,.int .u8 u.c.st,.bool u.c.cp,.bool u.c.dd,.slice u.p u.n u.m,.int .i64 u.c.fs,.int .i64 u.c.sz]=w8:=⟨_,rfl⟩
 rw [hw8] at HFO8 HUM8 HTB8
 rw [hw8]
 clear hw8 HTB7 HFO7
 try simp only [Act.put]
 go_wp2_with fail
 go_roundg (20-(j+1))
 case measure=>omega
 case rel=>exact⟨j+1,r,d,Ld,Td,Md,J',Q',tk+z,u,rfl,congrArg Value.bool HU.out.open_,rfl,by go_num,by omega,by omega,by omega,HFO8,hid (by rw [HXD.out];exact HNX.out),HTS',HUC,HUM8,HTB8,HNQ'⟩
end Go.Proofs.YtclbkfpbdidaiaaGreatDoor
