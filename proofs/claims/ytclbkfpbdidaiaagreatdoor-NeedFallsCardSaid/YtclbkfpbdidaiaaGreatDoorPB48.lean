import Derived.Test.YtclbkfpbdidaiaaGreatDoorPB99
import Derived.Test.YtclbkfpbdidaiaaGreatDoorPB46
import Derived.Test.YtclbkfpbdidaiaaGreatDoorPB38
import Derived.Deep.CutRange
namespace Go.Proofs.YtclbkfpbdidaiaaGreatDoor
open Go.Lib (hid)
set_option maxHeartbeats 16000000
open Go.RowKit Go.ChangeShapes Go.WideShapes
set_option linter.unusedVariables false
set_option linter.unusedSimpArgs false
set_option maxRecDepth 10000
variable {Ju:World→Nat→List Tc→(Nat→Prop)→Prop}
theorem law_nfalls (I:JnF Words Ju) (y:Yv) (L:List Ln) (T:List Tk) (M:List Ln) (K:List Bool) (W:World) (hw:Words W) (hR:RvM W y.p L T M) (hok:Pgok (y.p.pg L T M)) (hrt:0≤y.rt∧y.rt≤255) (hK:BoL W y.kp y.kn y.kc K):Calls Tryz.prog 5 #[.agg (ycs y)] W fun e w'=>e=.returned (.bool true)∧Below W.heap.size W w':=by
 have HI:=hid I
 clear I
 obtain⟨W1,hW1,hy,hb1⟩:∃ W1,W.alloc (.cells (ycs y) 29)=W1∧YB W1 W.heap.size y∧Below W.heap.size W W1:=⟨_,rfl,YB.new W y,(Below.refl _ _).alloc (Nat.le_refl _) _⟩
 obtain⟨B0,hB⟩:∃ B0,W.heap.size=B0:=⟨_,rfl⟩
 rw [hB] at hy
 have HY:=hid hy
 have HW1:=hid hW1
 have HB1:=hid hb1
 have HRE:=hid hB
 have HW:=hid fun w' (hb:Below W.heap.size W w')=>hw.later hb
 have HRM:=hid fun w' (hb:Below W.heap.size W w')=>PgM.later hR hb
 have HK:=hid fun w' (hb:Below W.heap.size W w')=>hK.later hb
 have HOK:=hid hok
 have HRT:=hid hrt
 have hfew:∀ w,Calls Tryz.prog 7 #[.agg (pcs y.p)] w fun e w'=>e=.returned (.int .i64 (fewI y.p.ln y.p.tn y.p.wn))∧Below w.heap.size w w':=fun w=>few_p _ _ _ _ _ _ _ _ _ _ _ _ _ _ _ _ w
 obtain⟨kp,hkp⟩:∃ kp,y.kp=kp:=⟨_,rfl⟩
 obtain⟨kn,hkn⟩:∃ kn,y.kn=kn:=⟨_,rfl⟩
 obtain⟨kc,hkc⟩:∃ kc,y.kc=kc:=⟨_,rfl⟩
 have HA:Hid (∀ w,YB w B0 y→w.cell? ⟨B0,10,none⟩=some (.int .u8 y.rt)∧w.cell? ⟨B0,11,none⟩=some (.slice kp kn kc)):=hid fun w h=>by
  have:=h.at
  rw [hkp,hkn,hkc] at this
  exact this
 rw [hkp,hkn,hkc] at HK
 clear hW1 hy hb1 hB hw hR hok hrt hK hkp hkn hkc
 have HF:=hid hfew
 clear hfew
 have a11:=(HA.out _ HY.out).2
 by_cases qf:y.p.ln≤20∧y.p.tn≤30∧y.p.wn≤20
 case neg =>
  have hfw:=HF.out W1
  rw [show fewI y.p.ln y.p.tn y.p.wn=0 from if_neg qf] at hfw
  clear qf
  go_enter Tryz.func5,Tryz.ntmps5
  go_upto_region 1 with (fail)
  rw [HW1.out,HRE.out]
  go_wp2_with (first | ((with_reducible refine z1t HY.out ?_ ?_);rfl))
  refine hfw.mono ?_
  rintro e w2 ⟨rfl,h2⟩
  have HB2:=hid (HB1.out.trans (h2.mono HB1.out.size))
  clear h2 hfw a11
  go_wp2_with fail
  refine (z5a _ (HW.out _ HB2.out)).mono ?_
  rintro e wz ⟨rfl,hz⟩
  have HBZ:=hid (HB2.out.trans (hz.mono HB2.out.size))
  clear hz
  go_wp2_with fail
  go_ret
  exact⟨rfl,HBZ.out⟩
 have hfw:=HF.out W1
 rw [show fewI y.p.ln y.p.tn y.p.wn=1 from if_pos qf] at hfw
 have HQF:=hid qf
 clear qf HF
 by_cases qk:kn≤60
 case neg =>
  have hd1:decide (60<(kn:Int))=true:=decide_eq_true (by omega)
  have hd2:decide (60<kn)=true:=decide_eq_true (by omega)
  clear qk
  go_enter Tryz.func5,Tryz.ntmps5
  go_upto_region 1 with (fail)
  rw [HW1.out,HRE.out]
  go_wp2_with (first | ((with_reducible refine z1t HY.out ?_ ?_);rfl))
  refine hfw.mono ?_
  rintro e w2 ⟨rfl,h2⟩
  have HB2:=hid (HB1.out.trans (h2.mono HB1.out.size))
  have HY2:=hid (HY.out.later h2)
  clear h2 hfw a11
  have a11:=(HA.out _ HY2.out).2
  go_wp2_with fail
  refine (z5a _ (HW.out _ HB2.out)).mono ?_
  rintro e wz ⟨rfl,hz⟩
  have HBZ:=hid (HB2.out.trans (hz.mono HB2.out.size))
  clear hz
  go_wp2_with fail
  go_ret
  exact⟨rfl,HBZ.out⟩
 have hd1:decide (60<(kn:Int))=false:=decide_eq_false (by omega)
 have hd2:decide (60<kn)=false:=decide_eq_false (by omega)
 have HGD:Hid (∀ w',Below W.heap.size W w'→Calls Tryz.prog 8 #[.int .i64 4,.int .i64 4,.agg (pcs y.p)] w' fun e w''=>e=.returned (.bool (z0l 4 4 (y.p.pg L T M)))∧Below w'.heap.size w' w''):=hid fun w' hb=>rgood_p 4 4 y.p.pk y.p.od y.p.po y.p.lp y.p.ln y.p.lcp y.p.tp y.p.tn y.p.tcp y.p.wp y.p.wn y.p.wcp y.p.sk y.p.fr y.p.to y.p.q L T M w' (HRM.out w' hb) HOK.out (by have:=HQF.out;omega)
 obtain⟨P,hP⟩:∃ P,y.p.pg L T M=P:=⟨_,rfl⟩
 have HPE:=hid hP
 rw [hP] at HGD HOK
 clear hP
 cases hg:z0l 4 4 P with
 | false =>
  rw [hg] at HGD
  clear hg
  go_enter Tryz.func5,Tryz.ntmps5
  go_upto_region 1 with (fail)
  rw [HW1.out,HRE.out]
  go_wp2_with (first | ((with_reducible refine z1t HY.out ?_ ?_);rfl))
  refine hfw.mono ?_
  rintro e w2 ⟨rfl,h2⟩
  have HB2:=hid (HB1.out.trans (h2.mono HB1.out.size))
  have HY2:=hid (HY.out.later h2)
  clear h2 hfw a11
  have a11:=(HA.out _ HY2.out).2
  go_wp2_with ((with_reducible refine z1z HY2.out ?_ ?_ ?_);rfl;rfl)
  refine (HGD.out _ HB2.out).mono ?_
  rintro e w3 ⟨rfl,h3⟩
  have HB3:=hid (HB2.out.trans (h3.mono HB2.out.size))
  clear h3 a11
  go_wp2_with fail
  refine (z5a _ (HW.out _ HB3.out)).mono ?_
  rintro e wz ⟨rfl,hz⟩
  have HBZ:=hid (HB3.out.trans (hz.mono HB3.out.size))
  clear hz
  go_wp2_with fail
  go_ret
  exact⟨rfl,HBZ.out⟩
 | true =>
 rw [hg] at HGD
 have HG:=hid hg
 clear hg
 go_enter Tryz.func5,Tryz.ntmps5
 go_upto_region 1 with (fail)
 rw [HW1.out,HRE.out]
 go_wp2_with (first | ((with_reducible refine z1t HY.out ?_ ?_);rfl))
 refine hfw.mono ?_
 rintro e w2 ⟨rfl,h2⟩
 have HB2:=hid (HB1.out.trans (h2.mono HB1.out.size))
 have HB12:=hid h2
 have HY2:=hid (HY.out.later h2)
 clear h2 hfw a11
 have a11:=(HA.out _ HY2.out).2
 go_wp2_with ((with_reducible refine z1z HY2.out ?_ ?_ ?_);rfl;rfl)
 refine (HGD.out _ HB2.out).mono ?_
 rintro e w3 ⟨rfl,h3⟩
 have HB3:=hid (HB2.out.trans (h3.mono HB2.out.size))
 have HB13:=hid (HB12.out.trans (h3.mono HB12.out.size))
 have HY3:=hid (HY2.out.later h3)
 clear h3 a11 hd1 hd2 HGD HY2 HB2 HB12
 obtain⟨R,hRr⟩:∃ R,y.rt % 5=R:=⟨_,rfl⟩
 have HR5:Hid (0≤R∧R≤4):=hid (by have:=HRT.out;omega)
 have hrt0:0≤y.rt:=HRT.out.1
 have a10:=(HA.out _ HY3.out).1
 go_upto_region 5 with (first | ((with_reducible refine wpList_load_ypl HY3.out ?_ ?_);rfl) | ((with_reducible refine z3j (r1p y.p) rfl ?_ ?_ ?_);rfl;rfl))
 have hbs:Below w3.heap.size w3 (w3.alloc (.cells (rcs (r1p y.p)) 42)):=(Below.refl _ _).alloc (Nat.le_refl _) _
 have hrs:RB (w3.alloc (.cells (rcs (r1p y.p)) 42)) w3.heap.size (r1p y.p):=RB.new w3 _
 obtain⟨w4,hw4⟩:∃ w4,w3.alloc (.cells (rcs (r1p y.p)) 42)=w4:=⟨_,rfl⟩
 obtain⟨Bs,hBs⟩:∃ Bs,w3.heap.size=Bs:=⟨_,rfl⟩
 rw [hw4] at hbs hrs
 rw [hw4,hBs]
 rw [hBs] at hrs
 have HB4:=hid (HB3.out.trans (hbs.mono HB3.out.size))
 have HB14:=hid (HB13.out.trans (hbs.mono HB13.out.size))
 have HRS:=hid hrs
 clear hbs hrs hw4 hBs a10 HY3 HB3 HB13
 try simp only [Act.put]
 have hst:=q0j (r1p y.p) L T M w4 (HW.out _ HB4.out) (q3w (HRM.out _ HB4.out)) (by rw [q1g,HPE.out];exact z9q HOK.out) (by have:=HQF.out;show y.p.ln≤400∧y.p.tn≤400∧y.p.wn≤400;omega)
 rw [q1g,HPE.out,z9v HG.out] at hst
 go_wp2_with ((with_reducible refine z0j HRS.out ?_ ?_);rfl)
 refine hst.mono ?_
 rintro e w5 ⟨c,L3,T3,M3,rfl,hm3,hx3,hb5,_⟩
 go_upto_region 6 with ((with_reducible refine wpList_storen_cr c rfl ?_ ?_ ?_);rfl;rfl)
 have hbc:Below w5.heap.size w5 (w5.alloc (.cells (ccs c) 34)):=(Below.refl _ _).alloc (Nat.le_refl _) _
 have hcb:CB (w5.alloc (.cells (ccs c) 34)) w5.heap.size c:=CB.new w5 c
 obtain⟨w6,hw6⟩:∃ w6,w5.alloc (.cells (ccs c) 34)=w6:=⟨_,rfl⟩
 obtain⟨A,hA⟩:∃ A,w5.heap.size=A:=⟨_,rfl⟩
 rw [hw6] at hbc hcb
 rw [hw6,hA]
 rw [hA] at hcb
 have HB5:=hid (HB4.out.trans (hb5.mono HB4.out.size))
 have HB15:=hid (HB14.out.trans (hb5.mono HB14.out.size))
 have HB56:=hid hbc
 have HRS6:=hid ((HRS.out.later hb5).later hbc)
 have HCB6:=hid hcb
 have HM5:Hid (CvM w5 c L3 T3 M3):=hid hm3
 have HX3:=hid hx3
 have HAE:=hid hA
 clear hbc hcb hw6 hA hb5 hm3 hx3 hst HRS HB4 HB14
 try simp only [Act.put]
 have hsz:=fun w (hb:Below W.heap.size W w)=>z9f (r1p y.p) L T M w (HW.out w hb) (q3w (HRM.out w hb)) (by rw [q1g,HPE.out];exact z9q HOK.out) (by have:=HQF.out;show y.p.ln≤400∧y.p.tn≤400∧y.p.wn≤400;omega)
 rw [q1g,HPE.out] at hsz
 have HSZ:=hid hsz
 obtain⟨sv,hsv⟩:∃ sv,z0z (x1st P)=sv:=⟨_,rfl⟩
 rw [hsv] at HSZ
 have HSV:=hid hsv
 clear hsz hsv
 have HB6:=hid (HB5.out.trans (HB56.out.mono HB5.out.size))
 have hbd:Below w6.heap.size w6 w6.drew:=(Below.refl _ _).drew
 refine wp_region_held_drew (S:=fun w'=>Hid (Below w6.heap.size w6 w')) (by kernel_rfl) (hid hbd) (fun hHeld=>?_)
 clear hbd
 generalize w6.drew=Wd at *
 refine wpAnyH_take (i:=1) (oi:=⟨some 47,_,_,_,_,_⟩) (v:=.agg (rcs (r1p y.p))) rfl (by kernel_rfl) (by kernel_rfl) (by kernel_rfl) (fun _ _ _ h=>h) (Or.inl ⟨by rfl,fun w' hw'=>z4g rfl (HRS6.out.later (Hid.out hw'))⟩) (by assumption) ?_
 try simp only [Act.put,sIB,sCZ,sCS]
 refine wpAnyH_ready (rs:=[0]) (by kernel_rfl) (by simp) (AllReadyH.cons rfl (fun K hK=>?_) (AllReadyH.nil))
 go_simp
 go_wp2_with fail
 refine (HI.out.new none 0 0 [] Wd (TL.empty _) (by omega) (fun t ht=>by cases ht) (fun t ht=>by cases ht)).mono ?_
 rintro e w7 ⟨Bj,Q,rfl,hju,hq,hb7⟩
 have hSN:Hid (Below w6.heap.size w6 w7):=hid (hHeld.out.trans (hb7.mono hHeld.out.size))
 have HJ7:Hid (Ju w7 Bj [] Q):=hid hju
 have HQ7:Hid (∀ j,Q j→w6.heap.size≤j):=hid fun j hj=>Nat.le_trans hHeld.out.size (hq j hj)
 clear hju hq hb7
 go_wp2_with fail
 refine hK.out _ _ hSN (fun hHeld2=>?_)
 try simp only [Act.put,sIB,sCZ,sCS]
 clear hK K hHeld
 have hHeld:=hHeld2
 clear hHeld2
 refine wpAnyH_ready (rs:=[2]) (by kernel_rfl) (by simp) (AllReadyH.cons rfl (fun K hK=>?_) (AllReadyH.nil))
 go_simp
 go_wp2_with fail
 refine (HSZ.out _ (HB6.out.trans (hHeld.out.mono HB6.out.size))).mono ?_
 rintro e w8 ⟨rfl,hb8⟩
 have hSN8:Hid (Below w6.heap.size w6 w8):=hid (hHeld.out.trans (hb8.mono hHeld.out.size))
 have HJ8:Hid (Ju w8 Bj [] Q):=hid (HI.out.later HJ7.out hb8)
 clear hb8
 go_wp2_with fail
 refine hK.out _ _ hSN8 (fun hHeld2=>?_)
 try simp only [Act.put,sIB,sCZ,sCS]
 clear hK K hHeld
 have hHeld:=hHeld2
 clear hHeld2
 refine wpAnyH_take (i:=3) (oi:=⟨some 7,_,_,_,_,_⟩) (v:=.pointer (some ⟨Bj,0,none⟩)) rfl (by kernel_rfl) (by kernel_rfl) (by kernel_rfl) (fun _ _ _ h=>h) (Or.inl ⟨by rfl,fun w' hw'=>?_⟩) (by assumption) ?_
 · clear hHeld
   go_simp
   try exact IntWalk.i64_in _ (by omega)
 try simp only [Act.put,sIB,sCZ,sCS]
 refine wpAnyH_take (i:=4) (oi:=⟨some 8,_,_,_,_,_⟩) (v:=.int .i64 sv) rfl (by kernel_rfl) (by kernel_rfl) (by kernel_rfl) (fun _ _ _ h=>h) (Or.inl ⟨by rfl,fun w' hw'=>?_⟩) (by assumption) ?_
 · clear hHeld
   go_simp
   try exact IntWalk.i64_in _ (by omega)
 try simp only [Act.put,sIB,sCZ,sCS]
 have hb68:=hHeld.out
 refine wpAnyH_done (by kernel_rfl) ?_ _
 clear hHeld
 have HB8:=hid (HB6.out.trans (hb68.mono HB6.out.size))
 have HB18:=hid ((HB15.out.trans (HB56.out.mono HB15.out.size)).trans (hb68.mono (HB15.out.trans (HB56.out.mono HB15.out.size)).size))
 have HFO8:Hid (FoN Ju W1 w8 A Bj Q c L3 T3 M3 []):=hid (FoN.start HB15.out HM5.out (HB56.out.trans (hb68.mono HB56.out.size)) (HCB6.out.later hb68) (by rw [HAE.out];exact Nat.le_refl _) HJ8.out (fun j hj=>Nat.le_trans HB56.out.size (HQ7.out j hj)) (fun hq=>by have:=HQ7.out _ hq;have:=HCB6.out.lt;omega))
 have HY8:=hid (HY.out.later HB18.out)
 clear hb68 HJ7 HJ8 HQ7 HCB6 HRS6 HM5 HB56 HB15 HB5 HB6 HAE HSZ
 have HX0:Hid (c.x L3 T3 M3=crs0 P):=HX3
 have HC4:Hid (c.p.ln≤400∧c.p.tn≤400∧c.p.wn≤400):=hid (z5d HFO8.out.cm (congrArg Crs.P HX3.out) HG.out)
 have hRi:In64 R:=by have:=HR5.out;unfold In64;omega
 have HRI:=hid hRi
 clear hRi
 have hhc:=q0b c L3 T3 M3 tv0 R w8 (HW.out _ HB8.out) HFO8.out.cm (by rw [HX3.out];exact⟨by simp only;omega,HOK.out,by unfold In64;simp only;omega,by unfold In64;simp only;omega,by simp only;omega⟩) HC4.out HRI.out ⟨by decide,by decide⟩
 rw [HX0.out] at hhc
 have hhc':Calls Tryz.prog 22 #[.agg (ccs c),.agg #[.int .u32 0,.int .u32 0,.int .u8 0,.bool false,.bool false,.slice none 0 0,.int .i64 0,.int .i64 0],.int .i64 R] w8 fun e w'=>e=.returned (.int .i64 (z1p (crs0 P) false 0 R))∧Below w8.heap.size w8 w':=hhc
 clear hhc
 have hhb:0≤z1p (crs0 P) false 0 R∧z1p (crs0 P) false 0 R≤6000:=by
  have:=z9i (x:=crs0 P) (retry:=R) HOK.out
  have ha:attP (crs0 P).P=attP P:=rfl
  rw [ha] at this
  rw [z8e HG.out]
  omega
 have hsb:1≤sv∧sv≤500:=by
  have hgx:=z7k HG.out
  have:=z8f hgx
  rw [← HSV.out]
  unfold z0z
  rw [if_pos hgx]
  omega
 have HST:Hid (z4i P R=sv+z1p (crs0 P) false 0 R):=hid (by unfold z4i;rw [if_pos HG.out,HSV.out])
 have HSA:Hid (∀ w',Below W.heap.size W w'→Calls Tryz.prog 24 #[.agg (pcs y.p),.int .i64 R] w' fun e w''=>e=.returned (.int .i64 (z4i P R))∧Below w'.heap.size w' w''):=hid fun w' hb=>by
  have:=q1q y.p L T M R w' (HW.out w' hb) (HRM.out w' hb) (by rw [HPE.out];exact HOK.out) (by have:=HQF.out;omega) HRI.out
  rw [HPE.out] at this
  exact this
 generalize z4i P R=ST at *
 obtain⟨hv0,hhv0⟩:∃ hv0,z1p (crs0 P) false 0 R=hv0:=⟨_,rfl⟩
 rw [hhv0] at hhc' hhb HST
 have HHV0:=hid hhv0
 have hstb:ST≤10000∧0≤ST:=by have:=HST.out;omega
 clear hhv0
 go_wp2_with ((with_reducible refine z0f HFO8.out.cb ?_ ?_);rfl)
 refine hhc'.mono ?_
 rintro e w9 ⟨rfl,hb9⟩
 have HFO9:=hid (HFO8.out.later HI.out hb9)
 have HB9:=hid (HB8.out.trans (hb9.mono HB8.out.size))
 have HB19:=hid (HB18.out.trans (hb9.mono HB18.out.size))
 have HY9:=hid (HY.out.later HB19.out)
 clear hb9 hhc' HFO8 HY8 HB8 HB18
 go_wp2_with ((with_reducible refine z1z HY9.out ?_ ?_ ?_);rfl;rfl)
 refine (HSA.out _ HB9.out).mono ?_
 rintro e wa ⟨rfl,hba⟩
 have HFOa:=hid (HFO9.out.later HI.out hba)
 have HB1a:=hid (HB19.out.trans (hba.mono HB19.out.size))
 clear hba HFO9 HY9 HB9 HB19
 have hne:(ST != sv+hv0)=false:=by rw [HST.out];simp
 go_wp2_with fail
 have HWB:=hid fun w' (hb:Below W1.heap.size W1 w')=>HW.out w' (HB1.out.trans (hb.mono HB1.out.size))
 have hct:∃ ST':Unit,True:=⟨(),trivial⟩
 clear hct
 go_loopg [6,8,9,10] 300 (fun gk s6 s8 s9 s10 wr=>∃ (i:Nat) (c:Cv) (L1:List Ln) (T1:List Tk) (M1:List Ln) (J:List Tc) (Q:Nat→Prop) (H:List Rx) (al hv:Int),s6=.int .i64 0∧s8=.int .i64 al∧s9=.int .i64 hv∧s10=.int .i64 (i:Int)∧gk+i=300∧Hid (FoN Ju W1 wr A Bj Q c L1 T1 M1 J)∧Hid (Fol P R K (c.x L1 T1 M1) J H i)∧Hid (SZ P J)∧Hid (hv=hdC (c.x L1 T1 M1) J R)∧Hid (al+hv≤ST)∧(0≤al∧al≤10000)∧(0≤hv∧hv≤10000))
 case atStart=>exact⟨0,c,L3,T3,M3,[],Q,[x1st P],sv,hv0,rfl,rfl,rfl,rfl,rfl,HFOa,hid (by rw [HX0.out];exact Fol.first HG.out HOK.out HR5.out K (x1st P) rfl),hid (SZ.nil P),hid (by rw [HX0.out,z3n,HHV0.out]),hid (by rw [HST.out];exact Int.le_refl _),by omega,by omega⟩
 case round =>
  clear HFOa HX0 HC4 HHV0 hhb hsb HX3 HB1a
  obtain⟨i,c,L1,T1,M1,J,Q,H,al,hv,rfl,rfl,rfl,rfl,hgi,HFO,HFL,HSZ,HHV,HAL,hal,hhv⟩:=hrel
  obtain⟨hi,hcr,hcp⟩:=q3h HG.out HOK.out HR5.out HFL.out
  obtain⟨X,c',J',hfs⟩:=q1y HG.out HOK.out HR5.out HFL.out HSZ.out
  have HFS:=hid hfs
  have HJK:=hid (HFL.out.jok (show i≤159 by omega))
  have HCR:=hid hcr
  have HCS:=hid (z5d HFO.out.cm hcp HG.out)
  have hlt:(i:Int)<300:=by omega
  clear hfs hcr hcp
  go_wp2_with fail
  refine (HI.out.of_ wr Bj J Q 1 HFO.out.ju HJK.out ⟨by decide,by decide⟩).mono ?_
  rintro e w1 ⟨t,rfl,htc,htm,hb1⟩
  have HTC:Hid (t.c=tOf J):=hid htc
  have htk:=q2l HJK.out
  rw [← HTC.out] at htk
  have HTK:=hid htk
  have HTM1:=hid htm
  have HFO1:=hid (HFO.out.later HI.out hb1)
  clear htc htm hb1 htk
  go_upto_region 14 with ((with_reducible refine z3i t rfl ?_ ?_ ?_);rfl;rfl)
  have hbt:Below w1.heap.size w1 (w1.alloc (.cells #[.int .u32 t.c.id,.int .u32 t.c.sg,.int .u8 t.c.st,.bool t.c.cp,.bool t.c.dd,.slice t.p t.n t.m,.int .i64 t.c.fs,.int .i64 t.c.sz] 46)):=(Below.refl _ _).alloc (Nat.le_refl _) _
  have htb:=z0c w1 (.cells #[.int .u32 t.c.id,.int .u32 t.c.sg,.int .u8 t.c.st,.bool t.c.cp,.bool t.c.dd,.slice t.p t.n t.m,.int .i64 t.c.fs,.int .i64 t.c.sz] 46)
  obtain⟨w2,hw2⟩:∃ w2,w1.alloc (.cells #[.int .u32 t.c.id,.int .u32 t.c.sg,.int .u8 t.c.st,.bool t.c.cp,.bool t.c.dd,.slice t.p t.n t.m,.int .i64 t.c.fs,.int .i64 t.c.sz] 46)=w2:=⟨_,rfl⟩
  obtain⟨Bt,hBt⟩:∃ Bt,w1.heap.size=Bt:=⟨_,rfl⟩
  rw [hw2] at hbt htb
  rw [hw2,hBt]
  rw [hBt] at htb
  have HTB2:=hid htb
  have HFO2:=hid (HFO1.out.later HI.out hbt)
  have HTM2:=hid (HTM1.out.later hbt)
  clear hbt htb hw2 hBt HTM1 HFO1
  try simp only [Act.put]
  have hwu:IntKind.u32.wrap ((i:Int)+1)=(i:Int)+1:=IntWalk.u32_in _ (by omega)
  obtain⟨b0,b1,b2,b3,b4,b5,b6,b7⟩:=z0k HTB2.out
  have hn:=cr_next c L1 T1 M1 w2 (HWB.out _ HFO2.out.below) HFO2.out.cm HCR.out HCS.out t R ((i:Int)+1) HTM2.out HTK.out.1 (by have:=HTK.out.2.1;have:=HTM2.out.len;omega)
  go_wp2_with ((with_reducible refine z0f HFO2.out.cb ?_ ?_);rfl)
  refine hn.mono ?_
  rintro e w3 ⟨rfl,hb3⟩
  have HFO3:=hid (HFO2.out.later HI.out hb3)
  have HTB3:=hid (z0b HTB2.out hb3)
  clear hb3 hn b0 b1 b2 b3 b4 b5 b6 b7 HTB2 HFO2 hwu HTM2
  go_upto_region 15 with ((with_reducible refine z3j (rvK (z2m (c.x L1 T1 M1) t.c R ((i:Int)+1))) rfl ?_ ?_ ?_);rfl;rfl)
  have hbr:Below w3.heap.size w3 (w3.alloc (.cells (rcs (rvK (z2m (c.x L1 T1 M1) t.c R ((i:Int)+1)))) 42)):=(Below.refl _ _).alloc (Nat.le_refl _) _
  have hrb:=RB.new w3 (rvK (z2m (c.x L1 T1 M1) t.c R ((i:Int)+1)))
  obtain⟨w4,hw4⟩:∃ w4,w3.alloc (.cells (rcs (rvK (z2m (c.x L1 T1 M1) t.c R ((i:Int)+1)))) 42)=w4:=⟨_,rfl⟩
  obtain⟨Br,hBr⟩:∃ Br,w3.heap.size=Br:=⟨_,rfl⟩
  rw [hw4] at hbr hrb
  rw [hw4,hBr]
  rw [hBr] at hrb
  have HRB4:=hid hrb
  have HB34:=hid hbr
  have HBR:=hid hBr
  clear hbr hrb hw4 hBr
  try simp only [Act.put]
  obtain⟨kk,hkk⟩:∃ kk:Bool,kk=decide (z3x K i=true∧c.tx≠0∧t.c.dd=false∧c.bk=false):=⟨_,rfl⟩
  have HKK:=hid hkk
  have hXT:kk=true→X=q4b c.tx:=fun h=>by
   rw [hkk,decide_eq_true_eq] at h
   rw [HFS.out.x]
   unfold z1u
   rw [if_pos ⟨h.1,h.2.1,by rw [← HTC.out];exact h.2.2.1,h.2.2.2⟩]
   rfl
  have hXF:kk=false→X=z2m (c.x L1 T1 M1) t.c R ((i:Int)+1):=fun h=>by
   rw [hkk,decide_eq_false_iff_not] at h
   rw [HFS.out.x]
   unfold z1u
   rw [if_neg (fun e=>h ⟨e.1,e.2.1,by rw [HTC.out];exact e.2.2.1,e.2.2.2⟩),← HTC.out]
  have HXT:=hid hXT
  have HXF:=hid hXF
  have HYB4:=hid (HY.out.later (HFO3.out.below.trans (HB34.out.mono HFO3.out.below.size)))
  have HKL4:=hid (HK.out w4 (HB1.out.trans ((HFO3.out.below.trans (HB34.out.mono HFO3.out.below.size)).mono HB1.out.size)))
  clear hkk hXT hXF
  go_cut [107] from 65 to 166 (fun s wx=>s=.bool kk∧wx=w4)
  case first =>
   have a11:=(HA.out _ HYB4.out).2
   have HCB4:=hid (HFO3.out.cb.later HB34.out)
   have hbk:=HCB4.out.at.2.1
   have htx:=HCB4.out.at.2.2.2.2
   obtain⟨_,_,_,_,b4,_,_,_⟩:=z0k (z0b HTB3.out HB34.out)
   by_cases q1:i<kn
   case neg =>
    have hd:decide ((i:Int)<(kn:Int))=false:=decide_eq_false (by omega)
    have hd':decide (i<kn)=false:=decide_eq_false q1
    have hkf:z3x K i=false:=by
     unfold z3x
     rw [List.getD,List.getElem?_eq_none (by have:=HKL4.out.len;omega)]
     rfl
    have HKF:=hid hkf
    clear hkf
    go_wp2_with fail
    go_meet
    exact⟨congrArg Value.bool (HKK.out.trans (decide_eq_false fun h=>by rw [HKF.out] at h;cases h.1)).symm,rfl⟩
   have hd:decide ((i:Int)<(kn:Int))=true:=decide_eq_true (by omega)
   have hd':decide (i<kn)=true:=decide_eq_true q1
   have hiz:(i:Int)<(kn:Int):=by omega
   have hcap:=HKL4.out.cap
   obtain⟨bk,ok,hkp,_,hkc⟩:=HKL4.out.cell (by omega)
   have hkl:=hkc i q1 0 (.bool (K.getD i false)) rfl
   simp only [Nat.mul_one,Nat.add_zero] at hkl
   obtain⟨kb,hkb⟩:∃ kb,K.getD i false=kb:=⟨_,rfl⟩
   rw [hkb] at hkl
   have HKB:Hid (z3x K i=kb):=hid hkb
   rw [hkp] at a11
   clear hkc hkb hkp
   cases kb with
   | false =>
    go_wp2_with fail
    go_meet
    exact⟨congrArg Value.bool (HKK.out.trans (decide_eq_false fun h=>by rw [HKB.out] at h;cases h.1)).symm,rfl⟩
   | true =>
    cases q2:(c.tx != 0) with
    | false =>
     have HQ2:=hid q2
     go_wp2_with fail
     go_meet
     exact⟨congrArg Value.bool (HKK.out.trans (decide_eq_false fun h=>by have:=HQ2.out;rw [bne_eq_false_iff_eq] at this;exact h.2.1 this)).symm,rfl⟩
    | true =>
     have HQ2:Hid (c.tx≠0):=hid (bne_iff_ne.1 q2)
     cases q3:t.c.dd with
     | true =>
      have HQ3:=hid q3
      rw [q3] at b4
      clear q3
      go_wp2_with fail
      go_meet
      exact⟨congrArg Value.bool (HKK.out.trans (decide_eq_false fun h=>by have:=h.2.2.1;rw [HQ3.out] at this;cases this)).symm,rfl⟩
     | false =>
      have HQ3:=hid q3
      rw [q3] at b4
      clear q3
      cases q4:c.bk with
      | true =>
       have HQ4:=hid q4
       rw [q4] at hbk
       clear q4
       go_wp2_with fail
       go_meet
       exact⟨congrArg Value.bool (HKK.out.trans (decide_eq_false fun h=>by have:=h.2.2.2;rw [HQ4.out] at this;cases this)).symm,rfl⟩
      | false =>
       have HQ4:=hid q4
       rw [q4] at hbk
       clear q4
       go_wp2_with fail
       go_meet
       exact⟨congrArg Value.bool (HKK.out.trans (decide_eq_true ⟨HKB.out,HQ2.out,HQ3.out,HQ4.out⟩)).symm,rfl⟩
  case rest =>
  obtain⟨rfl,hwc⟩:=hcut
  subst hwc
  go_upto_if 107 with fail
  go_cut [] from 65 to 166 (fun wx=>Hid (RB wx Br (rvK X))∧Hid (Below w3.heap.size w3 wx))
  case first =>
   cases kk with
   | true =>
    have htx:=(HFO3.out.cb.later HB34.out).at.2.2.2.2
    have HXE:=hid (HXT.out rfl)
    clear HXT HXF HKK
    go_wp2_with ((with_reducible refine z1a (rvK (q4b c.tx)) HRB4.out ?_ ?_ ?_);rfl;rfl)
    go_meet
    exact⟨hid (by rw [HXE.out];exact HRB4.out.set _),hid (below_setRow HB34.out (by rw [HBR.out];exact Nat.le_refl _) _)⟩
   | false =>
    have HXE:=hid (HXF.out rfl)
    clear HXT HXF HKK
    go_wp2_with fail
    go_meet
    exact⟨hid (by rw [HXE.out];exact HRB4.out),HB34⟩
  case rest =>
  obtain⟨HRX,HB3c⟩:=hcut
  clear HRB4 HB34 HKK HXT HXF HYB4 HKL4 HTB3
  have HFOc:=hid (HFO3.out.later HI.out HB3c.out)
  have HQB:Hid (¬ Q Br):=hid fun hq=>by
   have:=HFO3.out.lt2 HI.out _ (.inr (.inl hq))
   have:=HBR.out
   omega
  have HAB:Hid (A≠Br):=hid fun e=>by
   have:=HFO3.out.cb.lt
   have:=HBR.out
   omega
  have hap:=q0l c L1 T1 M1 wc (HWB.out _ HFOc.out.below) HFOc.out.cm HCR.out HCS.out (rvK X) [] [] [] (q2m X wc) (by rw [z7c HFS.out.pg];exact HFS.out.ok) ⟨Nat.zero_le _,Nat.zero_le _,Nat.zero_le _⟩
  rw [z7c HFS.out.pg,HFS.out.app] at hap
  go_wp2_with (first | ((with_reducible refine z0f HFOc.out.cb ?_ ?_);rfl) | ((with_reducible refine z0j HRX.out ?_ ?_);rfl))
  refine hap.mono ?_
  rintro e w5 ⟨d,Ld,Td,Md,rfl,hmd,hxd,hb5,hnew⟩
  have HFO5:=hid (HFOc.out.later HI.out hb5)
  have HR5x:=hid (HRX.out.later hb5)
  have hoff:Off (fblk A Q (.slice none 0 0)) d.p:=hnew.off (fun j hj=>HFOc.out.lt2 HI.out j hj)
  have HFO6:=hid (HFO5.out.put HI.out hmd hoff)
  have HR6x:=hid (RB.chg (S:=fun k=>k=A) (w':=w5.setRow A (ccs d)) HR5x.out ⟨rfl,rfl,rfl,by simp [World.setRow],fun k _ hn=>setRow_other _ _ _ _ hn⟩ (fun e=>HAB.out e.symm))
  have HXD:=hid hxd
  have HCSd:=hid (z5d hmd (by rw [hxd];exact HFS.out.cp) HG.out)
  clear hmd hxd hb5 hnew hoff hap HRX HFOc HFO3 HB3c
  go_upto_region 18 with ((with_reducible refine z0m d HFO5.out.cb ?_ ?_ ?_);rfl;rfl)
  obtain⟨w6,hw6⟩:∃ w6,w5.setRow A (ccs d)=w6:=⟨_,rfl⟩
  rw [hw6] at HFO6 HR6x
  rw [hw6]
  clear hw6 HFO5 HR5x
  try simp only [Act.put]
  obtain⟨k,hk⟩:∃ k,X.k=k:=⟨_,rfl⟩
  have HKE:=hid hk
  have a0:w6.cell? ⟨Br,0,none⟩=some (.int .u8 k):=by rw [← hk];exact HR6x.out.at.1
  have hk2:decide (2≤k)=true:=decide_eq_true (by rw [← hk];exact HFS.out.k2)
  have hkb:2≤k∧k≤9:=⟨by rw [← hk];exact HFS.out.k2,by rw [← hk];exact HFS.out.k9⟩
  clear hk
  obtain⟨b7k,hb7⟩:∃ b7k:Bool,decide (k≤7)=b7k:=⟨_,rfl⟩
  have HB7:=hid hb7
  have HJ0:=hid (fun (h:b7k=true)=>HFS.out.jn (by rw [HKE.out];exact of_decide_eq_true (by rw [hb7];exact h)))
  have HJS:=hid (fun (h:b7k=false)=>HFS.out.same (by rw [HKE.out];exact of_decide_eq_false (by rw [hb7];exact h)))
  go_upto_if 124 with fail
  go_cut [] from 65 to 166 (fun wx=>∃ Q',Hid (FoN Ju W1 wx A Bj Q' d Ld Td Md J')∧Hid (RB wx Br (rvK X)))
  case first =>
   cases b7k with
   | true =>
    have hj0:=HJ0.out rfl
    have hja:=HI.out.apply w6 Bj J Q 0 (rvK X) [] [] [] (HWB.out _ HFO6.out.below) HFO6.out.ju HJK.out in0 (q2m X w6) (by rw [z7c HFS.out.pg];exact HFS.out.ok) ⟨Nat.zero_le _,Nat.zero_le _,Nat.zero_le _⟩
    rw [z7c HFS.out.pg,hj0] at hja
    clear hj0 HJ0 HJS
    go_wp2_with ((with_reducible refine z0j HR6x.out ?_ ?_);rfl)
    refine hja.mono ?_
    rintro e w7 ⟨rfl,hact⟩
    obtain⟨Q',hfo7,_,htu⟩:=HFO6.out.acted hact
    have HFO7:=hid hfo7
    have HR7x:=hid ((htu.block Br HR6x.out.lt HQB.out).trans HR6x.out)
    clear hact hfo7 htu hja a0
    go_wp2_with fail
    go_meet
    exact⟨Q',HFO7,HR7x⟩
   | false =>
    have HJE:=hid (HJS.out rfl)
    clear HJ0 HJS
    go_wp2_with fail
    go_meet
    exact⟨Q,by rw [HJE.out];exact HFO6,HR6x⟩
  case rest =>
  clear HFO6 HR6x a0
  obtain⟨Q',HFOc,HRX⟩:=hcut
  clear HJ0 HJS HB7 hb7 HQB
  have HJKn:=hid HFS.out.jok
  go_wp2_with fail
  refine (HI.out.of_ wc Bj J' Q' 1 HFOc.out.ju HJKn.out ⟨by decide,by decide⟩).mono ?_
  rintro e w8 ⟨u,rfl,huc,hum,hb8⟩
  have HUC:Hid (u.c=tOf J'):=hid huc
  have HUM8:=hid hum
  have HFO8:=hid (HFOc.out.later HI.out hb8)
  have HR8:=hid (HRX.out.later hb8)
  clear huc hum hb8 HFOc HRX
  go_upto_region 21 with ((with_reducible refine z3i u rfl ?_ ?_ ?_);rfl;rfl)
  have hbt:Below w8.heap.size w8 (w8.alloc (.cells #[.int .u32 u.c.id,.int .u32 u.c.sg,.int .u8 u.c.st,.bool u.c.cp,.bool u.c.dd,.slice u.p u.n u.m,.int .i64 u.c.fs,.int .i64 u.c.sz] 46)):=(Below.refl _ _).alloc (Nat.le_refl _) _
  have htb:=z0c w8 (.cells #[.int .u32 u.c.id,.int .u32 u.c.sg,.int .u8 u.c.st,.bool u.c.cp,.bool u.c.dd,.slice u.p u.n u.m,.int .i64 u.c.fs,.int .i64 u.c.sz] 46)
  obtain⟨w9,hw9⟩:∃ w9,w8.alloc (.cells #[.int .u32 u.c.id,.int .u32 u.c.sg,.int .u8 u.c.st,.bool u.c.cp,.bool u.c.dd,.slice u.p u.n u.m,.int .i64 u.c.fs,.int .i64 u.c.sz] 46)=w9:=⟨_,rfl⟩
  obtain⟨Bu,hBu⟩:∃ Bu,w8.heap.size=Bu:=⟨_,rfl⟩
  rw [hw9] at hbt htb
  rw [hw9,hBu]
  rw [hBu] at htb
  have HTB9:=hid htb
  have HFO9:=hid (HFO8.out.later HI.out hbt)
  have HR9:=hid (HR8.out.later hbt)
  clear hbt htb hw9 hBu HFO8 HR8 HUM8
  try simp only [Act.put]
  obtain⟨b0,b1,b2,b3,b4,b5,b6,b7⟩:=z0k HTB9.out
  have htk:=q2l HJKn.out
  rw [← HUC.out] at htk
  have hho:=q0b d Ld Td Md u R w9 (HWB.out _ HFO9.out.below) HFO9.out.cm (by rw [HXD.out];exact HFS.out.crok) HCSd.out HRI.out htk.2.2
  have hhe:z1p (d.x Ld Td Md) u.c.dd u.c.sz R=hdC c' J' R:=by rw [HXD.out,HUC.out];rfl
  rw [hhe] at hho
  obtain⟨nv,hnv⟩:∃ nv,hdC c' J' R=nv:=⟨_,rfl⟩
  rw [hnv] at hho
  have HNV:=hid hnv
  clear htk hhe hnv
  go_wp2_with ((with_reducible refine z0f HFO9.out.cb ?_ ?_);rfl)
  refine hho.mono ?_
  rintro e wb ⟨rfl,hbb⟩
  have HFOb:=hid (HFO9.out.later HI.out hbb)
  have HRb:=hid (HR9.out.later hbb)
  clear hbb hho b0 b1 b2 b3 b4 b5 b6 b7 HTB9 HFO9 HR9
  obtain⟨z,hz⟩:∃ z,z0z X=z:=⟨_,rfl⟩
  have hsx:=fun w (hw:Words w)=>z9f (rvK X) [] [] [] w hw (q2m X w) (by rw [z7c HFS.out.pg];exact HFS.out.ok) ⟨Nat.zero_le _,Nat.zero_le _,Nat.zero_le _⟩
  rw [z7c HFS.out.pg,hz] at hsx
  have HSX:=hid hsx
  have hz1:1≤z:=by rw [← hz];exact HFS.out.out.pos
  have hnn:0≤nv:=by rw [← HNV.out];exact HFS.out.out.nn
  have hzf:k≠9→z+nv≤hv:=fun h=>by rw [← hz,← HNV.out,HHV.out];exact HFS.out.out.fall (by rw [HKE.out];exact h)
  have hzl:k=9→z≤hv:=fun h=>by rw [← hz,HHV.out];exact HFS.out.out.last (by rw [HKE.out];exact h)
  have hal2:=HAL.out
  clear hz hsx
  have a0:wb.cell? ⟨Br,0,none⟩=some (.int .u8 k):=by rw [← HKE.out];exact HRb.out.at.1
  have d1:decide (z<1)=false:=decide_eq_false (by omega)
  by_cases hk9:k=9
  · have hzl':=hzl hk9
    have q9:(k==9)=true:=by rw [hk9];rfl
    clear hzf hzl hk9
    have d2:decide (hv<z)=false:=decide_eq_false (by omega)
    have d3:decide (al+z≤ST)=true:=decide_eq_true (by omega)
    go_wp2_with ((with_reducible refine z0j HRb.out ?_ ?_);rfl)
    refine (HSX.out _ (HWB.out _ HFOb.out.below)).mono ?_
    rintro e w' ⟨rfl,hb'⟩
    have hfo':=HFOb.out.later HI.out hb'
    have hr':=HRb.out.later hb'
    clear HFOb HRb a0 hb'
    have HFOb:=hid hfo'
    have HRb:=hid hr'
    have a0:w'.cell? ⟨Br,0,none⟩=some (.int .u8 k):=by rw [← HKE.out];exact HRb.out.at.1
    clear hfo' hr'
    obtain⟨wb,hwb⟩:∃ wb,w'=wb:=⟨_,rfl⟩
    subst hwb
    go_wp2_with ((with_reducible refine z0r HRb.out ?_ ?_ ?_);rfl;rfl)
    refine (HSX.out _ (HWB.out _ HFOb.out.below)).mono ?_
    rintro e w' ⟨rfl,hb'⟩
    have hfo':=HFOb.out.later HI.out hb'
    have hr':=HRb.out.later hb'
    clear HFOb HRb a0 hb'
    have HFOb:=hid hfo'
    have HRb:=hid hr'
    have a0:w'.cell? ⟨Br,0,none⟩=some (.int .u8 k):=by rw [← HKE.out];exact HRb.out.at.1
    clear hfo' hr'
    obtain⟨wb,hwb⟩:∃ wb,w'=wb:=⟨_,rfl⟩
    subst hwb
    go_wp2_with ((with_reducible refine z0r HRb.out ?_ ?_ ?_);rfl;rfl)
    refine (HSX.out _ (HWB.out _ HFOb.out.below)).mono ?_
    rintro e w' ⟨rfl,hb'⟩
    have hfo':=HFOb.out.later HI.out hb'
    have hr':=HRb.out.later hb'
    clear HFOb HRb a0 hb'
    have HFOb:=hid hfo'
    have HRb:=hid hr'
    have a0:w'.cell? ⟨Br,0,none⟩=some (.int .u8 k):=by rw [← HKE.out];exact HRb.out.at.1
    clear hfo' hr'
    obtain⟨wb,hwb⟩:∃ wb,w'=wb:=⟨_,rfl⟩
    subst hwb
    have HYb:=hid (HY.out.later HFOb.out.below)
    go_wp2_with ((with_reducible refine z1z HYb.out ?_ ?_ ?_);rfl;rfl)
    refine (HSA.out _ (HB1.out.trans (HFOb.out.below.mono HB1.out.size))).mono ?_
    rintro e wf ⟨rfl,hbf⟩
    have HBf:=hid ((HB1.out.trans (HFOb.out.below.mono HB1.out.size)).trans (hbf.mono (HB1.out.trans (HFOb.out.below.mono HB1.out.size)).size))
    clear hbf a0 HFOb HRb HYb
    go_wp2_with fail
    refine (z5a _ (HW.out _ HBf.out)).mono ?_
    rintro e wz ⟨rfl,hz⟩
    have HBZ:=hid (HBf.out.trans (hz.mono HBf.out.size))
    clear hz
    go_wp2_with fail
    go_ret
    exact⟨rfl,HBZ.out⟩
  · have hzf':=hzf hk9
    have q9:(k==9)=false:=beq_false_of_ne hk9
    have HGO:=hid (HFS.out.go (by rw [HKE.out];exact hk9))
    clear hzf hzl hk9
    have d2:decide (hv-nv<z)=false:=decide_eq_false (by omega)
    have d3:decide (nv<0)=false:=decide_eq_false (by omega)
    go_wp2_with ((with_reducible refine z0j HRb.out ?_ ?_);rfl)
    refine (HSX.out _ (HWB.out _ HFOb.out.below)).mono ?_
    rintro e w' ⟨rfl,hb'⟩
    have hfo':=HFOb.out.later HI.out hb'
    have hr':=HRb.out.later hb'
    clear HFOb HRb a0 hb'
    have HFOb:=hid hfo'
    have HRb:=hid hr'
    have a0:w'.cell? ⟨Br,0,none⟩=some (.int .u8 k):=by rw [← HKE.out];exact HRb.out.at.1
    clear hfo' hr'
    obtain⟨wb,hwb⟩:∃ wb,w'=wb:=⟨_,rfl⟩
    subst hwb
    go_wp2_with ((with_reducible refine z0r HRb.out ?_ ?_ ?_);rfl;rfl)
    refine (HSX.out _ (HWB.out _ HFOb.out.below)).mono ?_
    rintro e w' ⟨rfl,hb'⟩
    have hfo':=HFOb.out.later HI.out hb'
    have hr':=HRb.out.later hb'
    clear HFOb HRb a0 hb'
    have HFOb:=hid hfo'
    have HRb:=hid hr'
    have a0:w'.cell? ⟨Br,0,none⟩=some (.int .u8 k):=by rw [← HKE.out];exact HRb.out.at.1
    clear hfo' hr'
    obtain⟨wb,hwb⟩:∃ wb,w'=wb:=⟨_,rfl⟩
    subst hwb
    go_wp2_with ((with_reducible refine z0r HRb.out ?_ ?_ ?_);rfl;rfl)
    refine (HSX.out _ (HWB.out _ HFOb.out.below)).mono ?_
    rintro e w' ⟨rfl,hb'⟩
    have hfo':=HFOb.out.later HI.out hb'
    have hr':=HRb.out.later hb'
    clear HFOb HRb a0 hb'
    have HFOb:=hid hfo'
    have HRb:=hid hr'
    have a0:w'.cell? ⟨Br,0,none⟩=some (.int .u8 k):=by rw [← HKE.out];exact HRb.out.at.1
    clear hfo' hr'
    obtain⟨wb,hwb⟩:∃ wb,w'=wb:=⟨_,rfl⟩
    subst hwb
    go_wp2_with fail
    go_roundg (300-(i+1))
    case measure=>omega
    case rel=>exact⟨i+1,d,Ld,Td,Md,J',Q',H ++ [X],al+z,nv,rfl,rfl,rfl,by go_num,by omega,HFOb,hid (by rw [HXD.out];exact HGO.out),hid HFS.out.out.sz,hid (by rw [HXD.out];exact HNV.out.symm),hid (by omega),by omega,by omega⟩
end Go.Proofs.YtclbkfpbdidaiaaGreatDoor
