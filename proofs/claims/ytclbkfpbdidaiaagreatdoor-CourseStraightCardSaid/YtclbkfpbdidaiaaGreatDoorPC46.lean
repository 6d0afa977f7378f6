import Derived.Test.YtclbkfpbdidaiaaGreatDoorPC99
import Derived.Test.YtclbkfpbdidaiaaGreatDoorPC45
import Derived.Deep.CutRange
namespace Go.Proofs.YtclbkfpbdidaiaaGreatDoor
open Go.Lib (hid)
set_option maxHeartbeats 16000000
open Go.RowKit Go.ChangeShapes Go.WideShapes
set_option linter.unusedVariables false
set_option linter.unusedSimpArgs false
set_option maxRecDepth 10000
variable {Ju:World→Nat→List Tc→(Nat→Prop)→Prop}
theorem cr_follow (I:JnF Words Ju) (y:Yv) (L:List Ln) (T:List Tk) (M:List Ln) (K:List Bool) (W:World) (hw:Words W) (hR:RvM W y.p L T M) (hok:Pgok (y.p.pg L T M)) (hg:z0l 4 4 (y.p.pg L T M)=true) (h2:y.p.ln≤20∧y.p.tn≤30∧y.p.wn≤20) (hrt:0≤y.rt∧y.rt≤255) (hK:BoL W y.kp y.kn y.kc K) (hkn:y.kn≤60):Calls Tryz.prog 10 #[.agg (ycs y),.int .i64 300] W fun e w'=>∃ (c:Cv) (B:Nat) (p:Option Addr) (n m:Nat) (H:List Rv) (X:Rx),e=.returned (.tuple #[.agg (ccs c),.pointer (some ⟨B,0,none⟩),.slice p (n+1) m,.bool true])∧SlG rce 20 rz w' p (n+1) m (H ++ [rvK X])∧H.length=n∧FolEnd (y.rt % 5) K (H.map ofR) X∧Below W.heap.size W w':=by
 have HI:=hid I
 clear I
 have hb0:Below W.heap.size W (W.alloc (.cells (ycs y) 29)):=(Below.refl _ _).alloc (Nat.le_refl _) _
 have hs0:(W.alloc (.cells (ycs y) 29)).heap.size=W.heap.size+1:=by simp only [World.alloc,Array.size_push]
 have hba:Below (W.alloc (.cells (ycs y) 29)).heap.size (W.alloc (.cells (ycs y) 29)) ((W.alloc (.cells (ycs y) 29)).alloc (.cells #[.int .u32 0,.int .u8 0,.int .u32 0,.int .u8 0,.slice none 0 0,.slice none 0 0,.slice none 0 0,.int .u8 0,.int .u8 0,.int .u8 0,.int .i64 0,.bool false,.int .i64 0,.int .i64 0,.int .u32 0] 34)):=(Below.refl _ _).alloc (Nat.le_refl _) _
 have hy0:=(YB.new W y).later hba
 have hz0:CB ((W.alloc (.cells (ycs y) 29)).alloc (.cells #[.int .u32 0,.int .u8 0,.int .u32 0,.int .u8 0,.slice none 0 0,.slice none 0 0,.slice none 0 0,.int .u8 0,.int .u8 0,.int .u8 0,.int .i64 0,.bool false,.int .i64 0,.int .i64 0,.int .u32 0] 34)) (W.alloc (.cells (ycs y) 29)).heap.size cz:=CB.new (W.alloc (.cells (ycs y) 29)) cz
 obtain⟨W1,hW1⟩:∃ W1,(W.alloc (.cells (ycs y) 29)).alloc (.cells #[.int .u32 0,.int .u8 0,.int .u32 0,.int .u8 0,.slice none 0 0,.slice none 0 0,.slice none 0 0,.int .u8 0,.int .u8 0,.int .u8 0,.int .i64 0,.bool false,.int .i64 0,.int .i64 0,.int .u32 0] 34)=W1:=⟨_,rfl⟩
 obtain⟨B0,hB⟩:∃ B0,W.heap.size=B0:=⟨_,rfl⟩
 rw [hs0] at hz0
 rw [hW1] at hba hy0 hz0
 rw [hB] at hy0 hz0
 have HY:=hid hy0
 have HZ:=hid hz0
 have HW1:=hid hW1
 have HB1:=hid (hb0.trans (hba.mono hb0.size))
 have HRE:=hid hB
 have HW:=hid fun w' (hb:Below W.heap.size W w')=>hw.later hb
 have HRM:=hid fun w' (hb:Below W.heap.size W w')=>PgM.later hR hb
 have HK:=hid fun w' (hb:Below W.heap.size W w')=>hK.later hb
 have HRT:=hid hrt
 have HQF:=hid h2
 obtain⟨kp,hkp⟩:∃ kp,y.kp=kp:=⟨_,rfl⟩
 obtain⟨kn,hkn'⟩:∃ kn,y.kn=kn:=⟨_,rfl⟩
 obtain⟨kc,hkc⟩:∃ kc,y.kc=kc:=⟨_,rfl⟩
 have HA:Hid (∀ w,YB w B0 y→w.cell? ⟨B0,10,none⟩=some (.int .u8 y.rt)∧w.cell? ⟨B0,11,none⟩=some (.slice kp kn kc)):=hid fun w h=>by
  have:=h.at
  rw [hkp,hkn',hkc] at this
  exact this
 rw [hkp,hkn',hkc] at HK
 rw [hkn'] at hkn
 obtain⟨P,hP⟩:∃ P,y.p.pg L T M=P:=⟨_,rfl⟩
 have HPE:=hid hP
 rw [hP] at hok hg
 have HOK:=hid hok
 have HG:=hid hg
 obtain⟨R,hRr⟩:∃ R,y.rt % 5=R:=⟨_,rfl⟩
 have HR5:Hid (0≤R∧R≤4):=hid (by omega)
 have HRR:=hid hRr
 have hrt0:0≤y.rt:=hrt.1
 have HWB:=hid fun w' (hb:Below W1.heap.size W1 w')=>HW.out w' (HB1.out.trans (hb.mono HB1.out.size))
 clear hW1 hb0 hs0 hba hy0 hz0 hB hw hR hok hg h2 hrt hK hkp hkn' hkc hP
 have HY3:=HY
 have HB3:=HB1
 have HB13:Hid (Below W1.heap.size W1 W1):=hid (Below.refl _ _)
 go_enter Tryz.func10,Tryz.ntmps10
 go_upto_region 1 with (fail)
 rw [HW1.out,HRE.out]
 go_upto_region 2 with (first | ((with_reducible refine wpList_load_ypl HY3.out ?_ ?_);rfl) | ((with_reducible refine wpList_storen_rc (r1p y.p) rfl ?_ ?_ ?_);rfl;rfl))
 have hbs:Below W1.heap.size W1 (W1.alloc (.cells (rcs (r1p y.p)) 42)):=(Below.refl _ _).alloc (Nat.le_refl _) _
 have hrs:RB (W1.alloc (.cells (rcs (r1p y.p)) 42)) W1.heap.size (r1p y.p):=RB.new W1 _
 obtain⟨w4,hw4⟩:∃ w4,W1.alloc (.cells (rcs (r1p y.p)) 42)=w4:=⟨_,rfl⟩
 obtain⟨Bs,hBs⟩:∃ Bs,W1.heap.size=Bs:=⟨_,rfl⟩
 rw [hw4] at hbs hrs
 rw [hw4,hBs]
 rw [hBs] at hrs
 have HB4:=hid (HB3.out.trans (hbs.mono HB3.out.size))
 have HB14:=hid (HB13.out.trans (hbs.mono HB13.out.size))
 have HRS:=hid hrs
 clear hbs hrs hw4 hBs HY3 HB3 HB13
 try simp only [Act.put]
 have hst:=cr_startN (r1p y.p) L T M w4 (HW.out _ HB4.out) (r1p_m (HRM.out _ HB4.out)) (by rw [r1p_x,HPE.out];exact x1st_ok HOK.out) (by have:=HQF.out;show y.p.ln≤400∧y.p.tn≤400∧y.p.wn≤400;omega)
 rw [r1p_x,HPE.out,start_1st HG.out] at hst
 go_wp2_with ((with_reducible refine z0j HRS.out ?_ ?_);rfl)
 refine hst.mono ?_
 rintro e w5 ⟨c,L3,T3,M3,rfl,hm3,hx3,hb5,_⟩
 go_upto_region 3 with ((with_reducible refine z2t c rfl ?_ ?_ ?_);rfl;rfl)
 have hbc:Below w5.heap.size w5 (w5.alloc (.cells (ccs c) 34)):=(Below.refl _ _).alloc (Nat.le_refl _) _
 have hcb:CB (w5.alloc (.cells (ccs c) 34)) w5.heap.size c:=CB.new w5 c
 obtain⟨w6,hw6⟩:∃ w6,w5.alloc (.cells (ccs c) 34)=w6:=⟨_,rfl⟩
 obtain⟨A,hA⟩:∃ A,w5.heap.size=A:=⟨_,rfl⟩
 rw [hw6] at hbc hcb
 rw [hw6,hA]
 rw [hA] at hcb
 have HB5:=hid (HB4.out.trans (hb5.mono HB4.out.size))
 have HB15:=hid (HB14.out.trans (hb5.mono HB14.out.size))
 have HB56:=hid hbc
 have HRS6:=hid ((HRS.out.later hb5).later hbc)
 have HCB6:=hid hcb
 have HM5:Hid (CvM w5 c L3 T3 M3):=hid hm3
 have HX3:=hid hx3
 have HAE:=hid hA
 clear hbc hcb hw6 hA hb5 hm3 hx3 hst HRS HB4 HB14
 try simp only [Act.put]
 go_cut [11,12] from 27 (fun s11 s12 wx=>∃ (Bj:Nat) (Q:Nat→Prop) (g:Nat),s11=.pointer (some ⟨Bj,0,none⟩)∧s12=.slice (some ⟨g,0,none⟩) 1 1∧Hid (FoM Ju W1 wx A Bj Q c L3 T3 M3 [] (.slice (some ⟨g,0,none⟩) 1 1) [r1p y.p]))
 case first =>
  have hbd:Below w6.heap.size w6 w6.drew:=(Below.refl _ _).drew
  refine wp_region_held_drew (S:=fun w'=>Hid (Below w6.heap.size w6 w')) (by kernel_rfl) (hid hbd) (fun hHeld=>?_)
  clear hbd
  generalize w6.drew=Wd at *
  refine wpAnyH_take (i:=1) (oi:=⟨some 28,_,_,_,_,_⟩) (v:=.agg (rcs (r1p y.p))) rfl (by kernel_rfl) (by kernel_rfl) (by kernel_rfl) (fun _ _ _ h=>h) (Or.inl ⟨by rfl,fun w' hw'=>z2z rfl (HRS6.out.later (Hid.out hw'))⟩) (by assumption) ?_
  try simp only [Act.put,sIB,sCZ,sCS]
  refine wpAnyH_ready (rs:=[0,2]) (by kernel_rfl) (by simp) (AllReadyH.cons rfl (fun K hK=>?_) (AllReadyH.cons rfl (fun K hK=>?_) (AllReadyH.nil)))
  · go_simp
    go_wp2_with fail
    refine (HI.out.new none 0 0 [] Wd (TL.empty _) (by omega) (fun t ht=>by cases ht) (fun t ht=>by cases ht)).mono ?_
    rintro e w7 ⟨Bj,Q,rfl,hju,hq,hb7⟩
    have hSN:Hid (Below w6.heap.size w6 w7):=hid (hHeld.out.trans (hb7.mono hHeld.out.size))
    have hba:Below w7.heap.size w7 (w7.alloc (.cells (rcs (r1p y.p)) 42)):=(Below.refl _ _).alloc (Nat.le_refl _) _
    have hSN2:Hid (Below w6.heap.size w6 (w7.alloc (.cells (rcs (r1p y.p)) 42))):=hid (hSN.out.trans (hba.mono hSN.out.size))
    have HFO:Hid (FoM Ju W1 (w7.alloc (.cells (rcs (r1p y.p)) 42)) A Bj Q c L3 T3 M3 [] (.slice (some ⟨w7.heap.size,0,none⟩) 1 1) [r1p y.p]):=hid (FoM.start HB15.out HM5.out (HB56.out.trans (hSN2.out.mono HB56.out.size)) (HCB6.out.later hSN2.out) (by rw [HAE.out];exact Nat.le_refl _) (HI.out.later hju hba) (fun j hj=>Nat.le_trans (Nat.le_trans HB56.out.size hHeld.out.size) (hq j hj)) (fun hq'=>by have:=hq _ hq';have:=HCB6.out.lt;have:=hHeld.out.size;omega) (RB.new w7 _) (by have:=HB56.out.size;have:=hSN.out.size;omega) (by have:=HCB6.out.lt;have:=hSN.out.size;omega) (fun hq'=>by have:=HI.out.lt hju _ hq';omega))
    clear hju hq hb7 hba
    go_wp2_with fail
    refine hK.out _ _ hSN (fun hHeld2=>?_)
    try simp only [Act.put,sIB,sCZ,sCS]
    clear hK K hHeld
    have hHeld:=hHeld2
    clear hHeld2
    refine wpAnyH_take (i:=3) (oi:=⟨some 11,_,_,_,_,_⟩) (v:=.pointer (some ⟨Bj,0,none⟩)) rfl (by kernel_rfl) (by kernel_rfl) (by kernel_rfl) (fun _ _ _ h=>h) (Or.inl ⟨by rfl,fun w' hw'=>?_⟩) (by assumption) ?_
    · clear hHeld
      go_simp
      try exact IntWalk.i64_in _ (by omega)
    try simp only [Act.put,sIB,sCZ,sCS]
    refine wpAnyH_ready (rs:=[2]) (by kernel_rfl) (by simp) (AllReadyH.cons rfl (fun K hK=>?_) (AllReadyH.nil))
    refine z5b (r:=r1p y.p) rfl (by simp [Act.eval]) ?_
    refine hK.out _ _ hSN2 (fun hHeld2=>?_)
    try simp only [Act.put,sIB,sCZ,sCS]
    clear hK K hHeld
    have hHeld:=hHeld2
    clear hHeld2
    refine wpAnyH_take (i:=4) (oi:=⟨some 12,_,_,_,_,_⟩) (v:=.slice (some ⟨w7.heap.size,0,none⟩) 1 1) rfl (by kernel_rfl) (by kernel_rfl) (by kernel_rfl) (fun _ _ _ h=>h) (Or.inl ⟨by rfl,fun w' hw'=>?_⟩) (by assumption) ?_
    · clear hHeld
      go_simp
      try exact IntWalk.i64_in _ (by omega)
    try simp only [Act.put,sIB,sCZ,sCS]
    have h3:=hHeld.out
    refine wpAnyH_done (by kernel_rfl) ?_ _
    clear hHeld
    go_wp2_with fail
    go_meet
    exact⟨Bj,Q,_,rfl,rfl,HFO⟩
  · have hba:Below Wd.heap.size Wd (Wd.alloc (.cells (rcs (r1p y.p)) 42)):=(Below.refl _ _).alloc (Nat.le_refl _) _
    have hSN2:Hid (Below w6.heap.size w6 (Wd.alloc (.cells (rcs (r1p y.p)) 42))):=hid (hHeld.out.trans (hba.mono hHeld.out.size))
    have HRN:=hid (RB.new Wd (r1p y.p))
    have HGS:Hid (w6.heap.size≤Wd.heap.size):=hid hHeld.out.size
    refine z5b (r:=r1p y.p) rfl (by simp [Act.eval]) ?_
    refine hK.out _ _ hSN2 (fun hHeld2=>?_)
    try simp only [Act.put,sIB,sCZ,sCS]
    clear hK K hHeld
    have hHeld:=hHeld2
    clear hHeld2 hba
    have HGT:Hid (Wd.heap.size<(Wd.alloc (.cells (rcs (r1p y.p)) 42)).heap.size):=hid HRN.out.lt
    generalize hwe:Wd.alloc (.cells (rcs (r1p y.p)) 42)=We at *
    generalize hge:Wd.heap.size=g at *
    clear hwe hge
    refine wpAnyH_ready (rs:=[0]) (by kernel_rfl) (by simp) (AllReadyH.cons rfl (fun K hK=>?_) (AllReadyH.nil))
    go_simp
    go_wp2_with fail
    refine (HI.out.new none 0 0 [] We (TL.empty _) (by omega) (fun t ht=>by cases ht) (fun t ht=>by cases ht)).mono ?_
    rintro e w7 ⟨Bj,Q,rfl,hju,hq,hb7⟩
    have hSN:Hid (Below w6.heap.size w6 w7):=hid (hHeld.out.trans (hb7.mono hHeld.out.size))
    have HFO:Hid (FoM Ju W1 w7 A Bj Q c L3 T3 M3 [] (.slice (some ⟨g,0,none⟩) 1 1) [r1p y.p]):=hid (FoM.start HB15.out HM5.out (HB56.out.trans (hSN.out.mono HB56.out.size)) (HCB6.out.later hSN.out) (by rw [HAE.out];exact Nat.le_refl _) hju (fun j hj=>Nat.le_trans (Nat.le_trans HB56.out.size hHeld.out.size) (hq j hj)) (fun hq'=>by have:=hq _ hq';have:=HCB6.out.lt;have:=hHeld.out.size;omega) (HRN.out.later hb7) (by have:=HB56.out.size;have:=HGS.out;omega) (by have:=HCB6.out.lt;have:=HGS.out;omega) (fun hq'=>by have:=hq _ hq';have:=HGT.out;omega))
    clear hju hq hb7
    go_wp2_with fail
    refine hK.out _ _ hSN (fun hHeld2=>?_)
    try simp only [Act.put,sIB,sCZ,sCS]
    clear hK K hHeld
    have hHeld:=hHeld2
    clear hHeld2
    refine wpAnyH_take (i:=3) (oi:=⟨some 11,_,_,_,_,_⟩) (v:=.pointer (some ⟨Bj,0,none⟩)) rfl (by kernel_rfl) (by kernel_rfl) (by kernel_rfl) (fun _ _ _ h=>h) (Or.inl ⟨by rfl,fun w' hw'=>?_⟩) (by assumption) ?_
    · clear hHeld
      go_simp
      try exact IntWalk.i64_in _ (by omega)
    try simp only [Act.put,sIB,sCZ,sCS]
    refine wpAnyH_take (i:=4) (oi:=⟨some 12,_,_,_,_,_⟩) (v:=.slice (some ⟨g,0,none⟩) 1 1) rfl (by kernel_rfl) (by kernel_rfl) (by kernel_rfl) (fun _ _ _ h=>h) (Or.inl ⟨by rfl,fun w' hw'=>?_⟩) (by assumption) ?_
    · clear hHeld
      go_simp
      try exact IntWalk.i64_in _ (by omega)
    try simp only [Act.put,sIB,sCZ,sCS]
    have h3:=hHeld.out
    refine wpAnyH_done (by kernel_rfl) ?_ _
    clear hHeld
    go_wp2_with fail
    go_meet
    exact⟨Bj,Q,_,rfl,rfl,HFO⟩
 case rest =>
 obtain⟨Bj,Q,g,rfl,rfl,HFO0⟩:=hcut
 clear HRS6 HCB6 HM5 HB56 HB15 HB5 HAE
 go_wp2_with fail
 go_loopg [12,13] 300 (fun gk s12 s13 wr=>∃ (i:Nat) (c:Cv) (L1:List Ln) (T1:List Tk) (M1:List Ln) (J:List Tc) (Q:Nat→Prop) (v:Value) (H:List Rv),s12=v∧s13=.int .i64 (i:Int)∧gk+i=300∧Hid (FoM Ju W1 wr A Bj Q c L1 T1 M1 J v H)∧Hid (Fol P R K (c.x L1 T1 M1) J (H.map ofR) i)∧Hid (SZ P J))
 case atStart=>exact⟨0,c,L3,T3,M3,[],Q,_,[r1p y.p],rfl,rfl,rfl,HFO0,hid (by rw [HX3.out];exact Fol.first HG.out HOK.out HR5.out K (ofR (r1p y.p)) rfl),hid (SZ.nil P)⟩
 case round =>
  clear HFO0 HX3
  obtain⟨i,c,L1,T1,M1,J,Q,v,H,hv12,rfl,hgi,HFO,HFL,HSZ⟩:=hrel
  have hv21:=hv12.symm
  clear hv12
  subst hv21
  obtain⟨hi,hcr,hcp⟩:=fol_lt HG.out HOK.out HR5.out HFL.out
  obtain⟨X,c',J',hfs⟩:=fol_next HG.out HOK.out HR5.out HFL.out HSZ.out
  have HFS:=hid hfs
  have HJK:=hid (HFL.out.jok (show i≤159 by omega))
  have HCR:=hid hcr
  have HCS:=hid (cv_small HFO.out.cm hcp HG.out)
  have hlt:(i:Int)<300:=by omega
  clear hfs hcr hcp
  go_wp2_with fail
  refine (HI.out.of_ wr Bj J Q 1 HFO.out.ju HJK.out ⟨by decide,by decide⟩).mono ?_
  rintro e w1 ⟨t,rfl,htc,htm,hb1⟩
  have HTC:Hid (t.c=tOf J):=hid htc
  have htk:=tof_ok HJK.out
  rw [← HTC.out] at htk
  have HTK:=hid htk
  have HTM1:=hid htm
  have HFO1:=hid (HFO.out.later HI.out hb1)
  clear htc htm hb1 htk
  go_upto_region 10 with ((with_reducible refine wpList_storen_tx t rfl ?_ ?_ ?_);rfl;rfl)
  have hbt:Below w1.heap.size w1 (w1.alloc (.cells #[.int .u32 t.c.id,.int .u32 t.c.sg,.int .u8 t.c.st,.bool t.c.cp,.bool t.c.dd,.slice t.p t.n t.m,.int .i64 t.c.fs,.int .i64 t.c.sz] 46)):=(Below.refl _ _).alloc (Nat.le_refl _) _
  have htb:=z0c w1 (.cells #[.int .u32 t.c.id,.int .u32 t.c.sg,.int .u8 t.c.st,.bool t.c.cp,.bool t.c.dd,.slice t.p t.n t.m,.int .i64 t.c.fs,.int .i64 t.c.sz] 46)
  obtain⟨w2,hw2⟩:∃ w2,w1.alloc (.cells #[.int .u32 t.c.id,.int .u32 t.c.sg,.int .u8 t.c.st,.bool t.c.cp,.bool t.c.dd,.slice t.p t.n t.m,.int .i64 t.c.fs,.int .i64 t.c.sz] 46)=w2:=⟨_,rfl⟩
  obtain⟨Bt,hBt⟩:∃ Bt,w1.heap.size=Bt:=⟨_,rfl⟩
  rw [hw2] at hbt htb
  rw [hw2,hBt]
  rw [hBt] at htb
  have HTB2:=hid htb
  have HFO2:=hid (HFO1.out.later HI.out hbt)
  have HTM2:=hid (HTM1.out.later hbt)
  clear hbt htb hw2 hBt HTM1 HFO1
  try simp only [Act.put]
  have hwu:IntKind.u32.wrap ((i:Int)+1)=(i:Int)+1:=IntWalk.u32_in _ (by omega)
  obtain⟨b0,b1,b2,b3,b4,b5,b6,b7⟩:=z0i HTB2.out
  have a10:=(HA.out _ (HY.out.later HFO2.out.below)).1
  have hn:=q0j c L1 T1 M1 w2 (HWB.out _ HFO2.out.below) HFO2.out.cm HCR.out HCS.out t R ((i:Int)+1) HTM2.out HTK.out.1 (by have:=HTK.out.2.1;have:=HTM2.out.len;omega)
  go_wp2_with ((with_reducible refine z0f HFO2.out.cb ?_ ?_);rfl)
  refine hn.mono ?_
  rintro e w3 ⟨rfl,hb3⟩
  have HFO3:=hid (HFO2.out.later HI.out hb3)
  have HTB3:=hid (z0b HTB2.out hb3)
  clear hb3 hn b0 b1 b2 b3 b4 b5 b6 b7 HTB2 HFO2 hwu HTM2 a10
  go_upto_region 11 with ((with_reducible refine wpList_storen_rc (rvK (z2d (c.x L1 T1 M1) t.c R ((i:Int)+1))) rfl ?_ ?_ ?_);rfl;rfl)
  have hbr:Below w3.heap.size w3 (w3.alloc (.cells (rcs (rvK (z2d (c.x L1 T1 M1) t.c R ((i:Int)+1)))) 42)):=(Below.refl _ _).alloc (Nat.le_refl _) _
  have hrb:=RB.new w3 (rvK (z2d (c.x L1 T1 M1) t.c R ((i:Int)+1)))
  obtain⟨w4,hw4⟩:∃ w4,w3.alloc (.cells (rcs (rvK (z2d (c.x L1 T1 M1) t.c R ((i:Int)+1)))) 42)=w4:=⟨_,rfl⟩
  obtain⟨Br,hBr⟩:∃ Br,w3.heap.size=Br:=⟨_,rfl⟩
  rw [hw4] at hbr hrb
  rw [hw4,hBr]
  rw [hBr] at hrb
  have HRB4:=hid hrb
  have HB34:=hid hbr
  have HBR:=hid hBr
  clear hbr hrb hw4 hBr
  try simp only [Act.put]
  obtain⟨kk,hkk⟩:∃ kk:Bool,kk=decide (z4d K i=true∧c.tx≠0∧t.c.dd=false∧c.bk=false):=⟨_,rfl⟩
  have HKK:=hid hkk
  have hXT:kk=true→X=q2v c.tx:=fun h=>by
   rw [hkk,decide_eq_true_eq] at h
   rw [HFS.out.x]
   unfold z1l
   rw [if_pos ⟨h.1,h.2.1,by rw [← HTC.out];exact h.2.2.1,h.2.2.2⟩]
   rfl
  have hXF:kk=false→X=z2d (c.x L1 T1 M1) t.c R ((i:Int)+1):=fun h=>by
   rw [hkk,decide_eq_false_iff_not] at h
   rw [HFS.out.x]
   unfold z1l
   rw [if_neg (fun e=>h ⟨e.1,e.2.1,by rw [HTC.out];exact e.2.2.1,e.2.2.2⟩),← HTC.out]
  have HXT:=hid hXT
  have HXF:=hid hXF
  have HYB4:=hid (HY.out.later (HFO3.out.below.trans (HB34.out.mono HFO3.out.below.size)))
  have HKL4:=hid (HK.out w4 (HB1.out.trans ((HFO3.out.below.trans (HB34.out.mono HFO3.out.below.size)).mono HB1.out.size)))
  clear hkk hXT hXF
  go_cut [80] from 34 to 122 (fun s wx=>s=.bool kk∧wx=w4)
  case first =>
   have a11:=(HA.out _ HYB4.out).2
   have HCB4:=hid (HFO3.out.cb.later HB34.out)
   have hbk:=HCB4.out.at.2.1
   have htx:=HCB4.out.at.2.2.2.2
   obtain⟨_,_,_,_,b4,_,_,_⟩:=z0i (z0b HTB3.out HB34.out)
   by_cases q1:i<kn
   case neg =>
    have hd:decide ((i:Int)<(kn:Int))=false:=decide_eq_false (by omega)
    have hd':decide (i<kn)=false:=decide_eq_false q1
    have hkf:z4d K i=false:=by
     unfold z4d
     rw [List.getD,List.getElem?_eq_none (by have:=HKL4.out.len;omega)]
     rfl
    have HKF:=hid hkf
    clear hkf
    go_wp2_with fail
    go_meet
    exact⟨congrArg Value.bool (HKK.out.trans (decide_eq_false fun h=>by rw [HKF.out] at h;cases h.1)).symm,rfl⟩
   have hd:decide ((i:Int)<(kn:Int))=true:=decide_eq_true (by omega)
   have hd':decide (i<kn)=true:=decide_eq_true q1
   have hiz:(i:Int)<(kn:Int):=by omega
   have hcap:=HKL4.out.cap
   obtain⟨bk,ok,hkp,_,hkc⟩:=HKL4.out.cell (by omega)
   have hkl:=hkc i q1 0 (.bool (K.getD i false)) rfl
   simp only [Nat.mul_one,Nat.add_zero] at hkl
   obtain⟨kb,hkb⟩:∃ kb,K.getD i false=kb:=⟨_,rfl⟩
   rw [hkb] at hkl
   have HKB:Hid (z4d K i=kb):=hid hkb
   rw [hkp] at a11
   clear hkc hkb hkp
   cases kb with
   | false =>
    go_wp2_with fail
    go_meet
    exact⟨congrArg Value.bool (HKK.out.trans (decide_eq_false fun h=>by rw [HKB.out] at h;cases h.1)).symm,rfl⟩
   | true =>
    cases q2:(c.tx != 0) with
    | false =>
     have HQ2:=hid q2
     go_wp2_with fail
     go_meet
     exact⟨congrArg Value.bool (HKK.out.trans (decide_eq_false fun h=>by have:=HQ2.out;rw [bne_eq_false_iff_eq] at this;exact h.2.1 this)).symm,rfl⟩
    | true =>
     have HQ2:Hid (c.tx≠0):=hid (bne_iff_ne.1 q2)
     cases q3:t.c.dd with
     | true =>
      have HQ3:=hid q3
      rw [q3] at b4
      clear q3
      go_wp2_with fail
      go_meet
      exact⟨congrArg Value.bool (HKK.out.trans (decide_eq_false fun h=>by have:=h.2.2.1;rw [HQ3.out] at this;cases this)).symm,rfl⟩
     | false =>
      have HQ3:=hid q3
      rw [q3] at b4
      clear q3
      cases q4:c.bk with
      | true =>
       have HQ4:=hid q4
       rw [q4] at hbk
       clear q4
       go_wp2_with fail
       go_meet
       exact⟨congrArg Value.bool (HKK.out.trans (decide_eq_false fun h=>by have:=h.2.2.2;rw [HQ4.out] at this;cases this)).symm,rfl⟩
      | false =>
       have HQ4:=hid q4
       rw [q4] at hbk
       clear q4
       go_wp2_with fail
       go_meet
       exact⟨congrArg Value.bool (HKK.out.trans (decide_eq_true ⟨HKB.out,HQ2.out,HQ3.out,HQ4.out⟩)).symm,rfl⟩
  case rest =>
  obtain⟨rfl,hwc⟩:=hcut
  subst hwc
  go_upto_if 80 with fail
  go_cut [] from 34 to 122 (fun wx=>Hid (RB wx Br (rvK X))∧Hid (Below w3.heap.size w3 wx))
  case first =>
   cases kk with
   | true =>
    have htx:=(HFO3.out.cb.later HB34.out).at.2.2.2.2
    have HXE:=hid (HXT.out rfl)
    clear HXT HXF HKK
    go_wp2_with ((with_reducible refine z0y (rvK (q2v c.tx)) HRB4.out ?_ ?_ ?_);rfl;rfl)
    go_meet
    exact⟨hid (by rw [HXE.out];exact HRB4.out.set _),hid (below_setRow HB34.out (by rw [HBR.out];exact Nat.le_refl _) _)⟩
   | false =>
    have HXE:=hid (HXF.out rfl)
    clear HXT HXF HKK
    go_wp2_with fail
    go_meet
    exact⟨hid (by rw [HXE.out];exact HRB4.out),HB34⟩
  case rest =>
  obtain⟨HRX,HB3c⟩:=hcut
  clear HRB4 HB34 HKK HXT HXF HYB4 HKL4 HTB3
  have HFOc:=hid (HFO3.out.later HI.out HB3c.out)
  have HQB:Hid (¬ Q Br):=hid fun hq=>by
   have:=HFO3.out.lt2 HI.out _ (.inr (.inl hq))
   have:=HBR.out
   omega
  have HAB:Hid (A≠Br):=hid fun e=>by
   have:=HFO3.out.cb.lt
   have:=HBR.out
   omega
  have HVR:Hid (v.ownBlock≠some Br):=hid fun e=>by
   have:=HFOc.out.lt2 HI.out _ (.inr (.inr e))
   have h3:=HFO3.out.lt2 HI.out _ (.inr (.inr e))
   have:=HBR.out
   omega
  have hap:=cr_applyN c L1 T1 M1 wc (HWB.out _ HFOc.out.below) HFOc.out.cm HCR.out HCS.out (rvK X) [] [] [] (q2s X wc) (by rw [q1a HFS.out.pg];exact HFS.out.ok) ⟨Nat.zero_le _,Nat.zero_le _,Nat.zero_le _⟩
  rw [q1a HFS.out.pg,HFS.out.app] at hap
  go_wp2_with (first | ((with_reducible refine z0f HFOc.out.cb ?_ ?_);rfl) | ((with_reducible refine z0j HRX.out ?_ ?_);rfl))
  refine hap.mono ?_
  rintro e w5 ⟨d,Ld,Td,Md,rfl,hmd,hxd,hb5,hnew⟩
  go_upto_region 14 with ((with_reducible refine z2t d rfl ?_ ?_ ?_);rfl;rfl)
  have hbd:Below w5.heap.size w5 (w5.alloc (.cells (ccs d) 34)):=(Below.refl _ _).alloc (Nat.le_refl _) _
  have hcd:CB (w5.alloc (.cells (ccs d) 34)) w5.heap.size d:=CB.new w5 d
  obtain⟨w6,hw6⟩:∃ w6,w5.alloc (.cells (ccs d) 34)=w6:=⟨_,rfl⟩
  obtain⟨Bd,hBd⟩:∃ Bd,w5.heap.size=Bd:=⟨_,rfl⟩
  rw [hw6] at hbd hcd
  rw [hw6,hBd]
  rw [hBd] at hcd
  have HFO5:=hid (HFOc.out.later HI.out hb5)
  have HQD:Hid (¬ Q Bd):=hid fun hq=>by
   have:=HFO5.out.lt2 HI.out _ (.inr (.inl hq))
   omega
  have HAD:Hid (A≠Bd):=hid fun e=>by
   have:=HFO5.out.cb.lt
   omega
  have HVD:Hid (v.ownBlock≠some Bd):=hid fun e=>by
   have:=HFO5.out.lt2 HI.out _ (.inr (.inr e))
   omega
  have HFO6:=hid (HFO5.out.later HI.out hbd)
  have HR6x:=hid ((HRX.out.later hb5).later hbd)
  have HCD6:=hid hcd
  have HMD6:Hid (CvM w6 d Ld Td Md):=hid (PgM.later hmd hbd)
  have HOF6:Hid (Off (fblk A Q v) d.p):=hid (hnew.off (fun j hj=>HFOc.out.lt2 HI.out j hj))
  have HXD:=hid hxd
  clear hmd hxd hb5 hnew hap HRX HFOc HFO3 HB3c hbd hcd hw6 hBd HFO5
  try simp only [Act.put]
  obtain⟨k,hk⟩:∃ k,X.k=k:=⟨_,rfl⟩
  have HKE:=hid hk
  have a0:w6.cell? ⟨Br,0,none⟩=some (.int .u8 k):=by rw [← hk];exact HR6x.out.at.1
  have hk2:decide (2≤k)=true:=decide_eq_true (by rw [← hk];exact HFS.out.k2)
  have hkb:2≤k∧k≤9:=⟨by rw [← hk];exact HFS.out.k2,by rw [← hk];exact HFS.out.k9⟩
  clear hk
  obtain⟨b7k,hb7⟩:∃ b7k:Bool,decide (k≤7)=b7k:=⟨_,rfl⟩
  have HB7:=hid hb7
  have HJ0:=hid (fun (h:b7k=true)=>HFS.out.jn (by rw [HKE.out];exact of_decide_eq_true (by rw [hb7];exact h)))
  have HJS:=hid (fun (h:b7k=false)=>HFS.out.same (by rw [HKE.out];exact of_decide_eq_false (by rw [hb7];exact h)))
  go_upto_region 16 with (fail)
  go_cut [108] from 34 to 122 (fun s wx=>s=.bool false∧∃ Q',Hid (FoM Ju W1 wx A Bj Q' c L1 T1 M1 J' v H)∧Hid (RB wx Br (rvK X))∧Hid (CB wx Bd d)∧Hid (CvM wx d Ld Td Md)∧Hid (Off (fblk A Q' v) d.p))
  case first =>
   cases b7k with
   | true =>
    have hj0:=HJ0.out rfl
    have hja:=HI.out.apply w6 Bj J Q 0 (rvK X) [] [] [] (HWB.out _ HFO6.out.below) HFO6.out.ju HJK.out in0 (q2s X w6) (by rw [q1a HFS.out.pg];exact HFS.out.ok) ⟨Nat.zero_le _,Nat.zero_le _,Nat.zero_le _⟩
    rw [q1a HFS.out.pg,hj0] at hja
    clear hj0 HJ0 HJS
    go_wp2_with ((with_reducible refine z0w HR6x.out ?_ ?_ ?_);rfl;rfl)
    refine hja.mono ?_
    rintro e w7 ⟨rfl,hact⟩
    obtain⟨Q',hfo7,hqq,htu⟩:=HFO6.out.acted hact
    have HFO7:=hid hfo7
    have HR7x:Hid (RB w7 Br (rvK X)):=hid ((htu.block Br HR6x.out.lt HQB.out).trans HR6x.out)
    have HCD7:Hid (CB w7 Bd d):=hid ((htu.block Bd HCD6.out.lt HQD.out).trans HCD6.out)
    have HMD7:Hid (CvM w7 d Ld Td Md):=hid (z6z HMD6.out htu ⟨fun h0 a e hq=>HOF6.out.l h0 a e (.inr (.inl hq)),fun h0 a e hq=>HOF6.out.t h0 a e (.inr (.inl hq)),fun h0 a e hq=>HOF6.out.o h0 a e (.inr (.inl hq))⟩)
    have HOF7:Hid (Off (fblk A Q' v) d.p):=hid (HOF6.out.grow HMD6.out fun j hj=>by
     rcases hj with e | h | h
     · exact .inl (.inl e)
     · rcases hqq j h with g | g
       · exact .inl (.inr (.inl g))
       · exact .inr g
     · exact .inl (.inr (.inr h)))
    clear hact hfo7 hqq htu hja a0
    go_wp2_with fail
    go_meet
    exact⟨rfl,Q',HFO7,HR7x,HCD7,HMD7,HOF7⟩
   | false =>
    have HJE:=hid (HJS.out rfl)
    clear HJ0 HJS
    go_wp2_with fail
    go_meet
    exact⟨rfl,Q,by rw [HJE.out];exact HFO6,HR6x,HCD6,HMD6,HOF6⟩
  case rest =>
  clear HFO6 HR6x HCD6 HMD6 HOF6 a0
  obtain⟨rfl,Q',HFO6,HR6x,HCD6,HMD6,HOF6⟩:=hcut
  clear HJ0 HJS HB7 hb7 HQB HQD
  go_upto_region 18 with (fail)
  have hbd:Below wc.heap.size wc wc.drew:=(Below.refl _ _).drew
  refine wp_region_held_drew (S:=fun w'=>Hid (CB w' Bd d∧RB w' Br (rvK X))) (by kernel_rfl) (hid ⟨HCD6.out.later hbd,HR6x.out.later hbd⟩) (fun hHeld=>?_)
  have HFOd:=hid (HFO6.out.later HI.out hbd)
  have HMDd:Hid (CvM wc.drew d Ld Td Md):=hid (PgM.later HMD6.out hbd)
  clear hbd HFO6 HR6x HCD6 HMD6
  generalize wc.drew=Wd at *
  refine wpAnyH_take (i:=0) (oi:=⟨some 112,_,_,_,_,_⟩) (v:=.agg (ccs d)) rfl (by kernel_rfl) (by kernel_rfl) (by kernel_rfl) (fun _ _ _ h=>h) (Or.inl ⟨by rfl,fun w' hw'=>z4e rfl (Hid.out hw').1⟩) (by assumption) ?_
  try simp only [Act.put,sIB,sCZ,sCS]
  refine wpAnyH_take (i:=1) (oi:=⟨some 113,_,_,_,_,_⟩) (v:=v) rfl (by kernel_rfl) (by kernel_rfl) (by kernel_rfl) (fun _ _ _ h=>h) (Or.inl ⟨by rfl,fun w' hw'=>?_⟩) (by assumption) ?_
  · clear hHeld
    go_simp
    try exact IntWalk.i64_in _ (by omega)
  try simp only [Act.put,sIB,sCZ,sCS]
  refine wpAnyH_take (i:=2) (oi:=⟨some 114,_,_,_,_,_⟩) (v:=.agg (rcs (rvK X))) rfl (by kernel_rfl) (by kernel_rfl) (by kernel_rfl) (fun _ _ _ h=>h) (Or.inl ⟨by rfl,fun w' hw'=>z2z rfl (Hid.out hw').2⟩) (by assumption) ?_
  try simp only [Act.put,sIB,sCZ,sCS]
  refine wpAnyH_ready (rs:=[3]) (by kernel_rfl) (by simp) (AllReadyH.cons rfl (fun K hK=>?_) (AllReadyH.nil))
  refine z5b (r:=rvK X) rfl (by simp [Act.eval]) ?_
  have hba:Below Wd.heap.size Wd (Wd.alloc (.cells (rcs (rvK X)) 42)):=(Below.refl _ _).alloc (Nat.le_refl _) _
  have hSN:Hid (CB (Wd.alloc (.cells (rcs (rvK X)) 42)) Bd d∧RB (Wd.alloc (.cells (rcs (rvK X)) 42)) Br (rvK X)):=hid ⟨hHeld.out.1.later hba,hHeld.out.2.later hba⟩
  have HFOe:=hid (HFOd.out.later HI.out hba)
  have HMDe:Hid (CvM (Wd.alloc (.cells (rcs (rvK X)) 42)) d Ld Td Md):=hid (PgM.later HMDd.out hba)
  have HRN:=hid (RB.new Wd (rvK X))
  clear hba HFOd HMDd
  refine hK.out _ _ hSN (fun hHeld2=>?_)
  try simp only [Act.put,sIB,sCZ,sCS]
  clear hSN hK K hHeld
  have hHeld:=hHeld2
  clear hHeld2
  generalize Wd.alloc (.cells (rcs (rvK X)) 42)=We at *
  generalize Wd.heap.size=Bn at *
  have hHL:H.length≤159:=by
   have:=HFL.out.len
   rw [List.length_map] at this
   omega
  refine wpAnyH_ready (rs:=[4]) (by kernel_rfl) (by simp) (AllReadyH.cons rfl (fun K hK=>?_) (AllReadyH.nil))
  refine z1b (by decide) Tryz.underlying36 info_rec rfl (by omega) rfl (.tmp 113) (.tmp 115) rfl v H.length (z0n rce H) (by simp [Act.eval]) HFOe.out.own (some ⟨Bn,0,none⟩) 1 1 (rce (rvK X)) (by simp [Act.eval]) (by rw [q1b]) (fun h=>by cases h) (fun ad had j u hu=>by cases had;rw [Go.WideShapes.add_plain,Nat.zero_add];exact z0a HRN.out (by simpa [rce] using hu)) (rce_one _) (by omega) ?_
  intro p8 c8 w9 g1 g2 g3
  have hvd:v.ownBlock≠some Bd:=fun e=>HVD.out e
  have hvr:v.ownBlock≠some Br:=fun e=>HVR.out e
  have hSN:Hid (CB w9 Bd d∧RB w9 Br (rvK X)):=hid ⟨hHeld.out.1.chg g2 hvd,hHeld.out.2.chg g2 hvr⟩
  have HFO9:Hid (FoM Ju W1 w9 A Bj Q' c L1 T1 M1 J' (.slice p8 (H.length+1) c8) (H ++ [rvK X])):=hid (HFOe.out.add2 HI.out (by rw [z1d,z3p];exact g1) g2 g3)
  have HMD9:Hid (CvM w9 d Ld Td Md):=hid (z6z (S:=fun b=>v.ownBlock=some b) HMDe.out ⟨g2.os,g2.tape,g2.output,g2.size,g2.block⟩ ⟨fun h0 a e hq=>HOF6.out.l h0 a e (.inr (.inr hq)),fun h0 a e hq=>HOF6.out.t h0 a e (.inr (.inr hq)),fun h0 a e hq=>HOF6.out.o h0 a e (.inr (.inr hq))⟩)
  have HOF9:Hid (Off (fblk A Q' (.slice p8 (H.length+1) c8)) d.p):=hid (HOF6.out.grow HMDe.out fun j hj=>by
   rcases hj with e | h | h
   · exact .inl (.inl e)
   · exact .inl (.inr (.inl h))
   · rcases g3 j h with g | g
     · exact .inl (.inr (.inr g))
     · exact .inr g)
  clear g1 g2 g3 hvd hvr HFOe HMDe HRN HOF6
  refine hK.out _ _ hSN (fun hHeld2=>?_)
  try simp only [Act.put,sIB,sCZ,sCS]
  clear hSN hK K hHeld
  have hHeld:=hHeld2
  clear hHeld2
  refine wpAnyH_ready (rs:=[5]) (by kernel_rfl) (by simp) (AllReadyH.cons rfl (fun K hK=>?_) (AllReadyH.nil))
  refine step_store_cr d HFO9.out.cb (by simp [Act.eval]) (by simp [Act.eval]) ?_
  have hch:Chg (fun k=>k=A) w9 (w9.setRow A (ccs d)):=⟨rfl,rfl,rfl,by simp [World.setRow],fun k _ hn=>setRow_other _ _ _ _ hn⟩
  have hSN:Hid (CB (w9.setRow A (ccs d)) Bd d∧RB (w9.setRow A (ccs d)) Br (rvK X)):=hid ⟨hHeld.out.1.chg hch (fun e=>HAD.out e.symm),hHeld.out.2.chg hch (fun e=>HAB.out e.symm)⟩
  have HFOf:=hid (HFO9.out.put HI.out HMD9.out HOF9.out)
  clear hch HFO9 HMD9 HOF9
  refine hK.out _ _ hSN (fun hHeld2=>?_)
  try simp only [Act.put,sIB,sCZ,sCS]
  clear hSN hK K hHeld
  have hHeld:=hHeld2
  clear hHeld2
  generalize w9.setRow A (ccs d)=wf at *
  refine wpAnyH_take (i:=6) (oi:=⟨some 12,_,_,_,_,_⟩) (v:=.slice p8 (H.length+1) c8) rfl (by kernel_rfl) (by kernel_rfl) (by kernel_rfl) (fun _ _ _ h=>h) (Or.inl ⟨by rfl,fun w' hw'=>?_⟩) (by assumption) ?_
  · clear hHeld
    go_simp
    try exact IntWalk.i64_in _ (by omega)
  try simp only [Act.put,sIB,sCZ,sCS]
  have hRf:=hHeld.out.2
  refine wpAnyH_done (by kernel_rfl) ?_ _
  clear hHeld
  have HRf:=hid hRf
  clear hRf
  have a0:wf.cell? ⟨Br,0,none⟩=some (.int .u8 k):=by rw [← HKE.out];exact HRf.out.at.1
  by_cases hk9:k=9
  case pos =>
   have q9:(k==9)=true:=by rw [hk9];rfl
   have HFE:=hid (HFS.out.fin (by rw [HKE.out];exact hk9))
   have HZf:=hid (HZ.out.later HFOf.out.below)
   clear hk9
   go_wp2_with (first | ((with_reducible refine z0f HFOf.out.cb ?_ ?_);rfl) | ((with_reducible refine z0p d HZf.out ?_ ?_ ?_);rfl;rfl))
   have hzl:B0+1<W1.heap.size:=HZ.out.lt
   have ht:Turn (fun j=>j=B0+1) wf (wf.setRow (B0+1) (ccs d)):=⟨rfl,rfl,rfl,by simp [World.setRow],fun k _ hn=>setRow_other _ _ _ _ hn⟩
   have hown:=q1s HFOf.out.own ht (fun b hb e=>by have:=HFOf.out.low b (.inr (.inr hb));omega)
   obtain⟨p9,c9,hv9,hs9,_⟩:=SlG.of_own (d:=rz) q1b (by decide) hown
   rw [List.length_append,List.length_singleton] at hv9 hs9
   cases hv9
   refine bodyPost_ret (v:=.tuple #[.agg (ccs d),.pointer (some ⟨Bj,0,none⟩),.slice p8 (H.length+1) c8,.bool true]) ?_ rfl ?_
   · exact results_cr4 rfl _ _ (B0+1) d _ _ _ rfl rfl rfl rfl (HZf.out.set d)
   · exact⟨d,Bj,p8,H.length,c8,H,X,rfl,hs9,rfl,by rw [HRR.out];exact HFE.out,below_setRow (HB1.out.trans (HFOf.out.below.mono HB1.out.size)) (by rw [HRE.out];omega) _⟩
  have q9:(k==9)=false:=beq_false_of_ne hk9
  have HGO:=hid (HFS.out.go (by rw [HKE.out];exact hk9))
  clear hk9
  go_wp2_with fail
  go_roundg (300-(i+1))
  case measure=>omega
  case rel=>exact⟨i+1,d,Ld,Td,Md,J',Q',_,H ++ [rvK X],rfl,by go_num,by omega,HFOf,hid (by rw [HXD.out,List.map_append,List.map_singleton,ofR_k X HFS.out.pg];exact HGO.out),hid HFS.out.out.sz⟩
theorem wpList_storen_y (y':Yv) {ops:Array Oper} {rest:List Oper} {a:Act} {w0:World} {Q:Exit→Act→World→Prop} {dst:Option Tmp} {x y:Operand} {ty:TypeId} {pos:String} {after:Array Edge} {old:Array Value} (ho:old.size=12)
 (hx:a.eval x=.pointer (some ⟨w0.heap.size,0,none⟩)) (hy:a.eval y=.agg (ycs y'))
 (h:wpList Tryz.prog ops Q rest (a.put dst undef) (w0.alloc (.cells (ycs y') 29))):wpList Tryz.prog ops Q (Oper.mk dst (.store 29 x y) ty pos after none::rest) a (w0.alloc (.cells old 29)):=by
 refine wpList_store_row rfl 29 x y rfl w0.heap.size (ycs y') hx hy 29 old (z0c _ _) (by kernel_rfl) (by rw [ho];rfl) (ycs_one y') ?_
 rw [World.setRow_alloc_new]
 exact h
def noK (y:Yv):Yv:=⟨y.p,y.rt,none,0,0⟩
theorem noK_put {w:World} {B:Nat} {y:Yv} (h:YB w B y):YB (w.setCell ⟨B,11,none⟩ (.slice none 0 0)) B (noK y):=z0u 11 _ h
def cntV (H:List Rv) (k:Int):Nat:=H.countP fun r=>r.k==k
theorem cntV_map (H:List Rv) (k:Int):cntK (H.map ofR) k=cntV H k:=by
 unfold cntK cntV
 rw [List.countP_map]
 rfl
theorem cntV_one (H:List Rv) (k:Int) (j:Nat) (h:j<H.length):cntV (H.take (j+1)) k=cntV (H.take j) k+(if (H.getD j rz).k==k then 1 else 0):=by
 unfold cntV
 rw [List.take_add_one,List.getElem?_eq_getElem h,List.countP_append]
 simp [List.getD,List.getElem?_eq_getElem h,List.countP_cons]
theorem cntV_le (H:List Rv) (k:Int) (j:Nat):cntV (H.take j) k≤j:=by
 unfold cntV
 have:=List.countP_le_length (p:=fun r:Rv=>r.k==k) (l:=H.take j)
 rw [List.length_take] at this
 omega
variable {Ju:World→Nat→List Tc→(Nat→Prop)→Prop}
theorem law_cstraight (I:JnF Words Ju) (y:Yv) (L:List Ln) (T:List Tk) (M:List Ln) (K:List Bool) (W:World) (hw:Words W) (hR:RvM W y.p L T M) (hok:Pgok (y.p.pg L T M)) (hrt:0≤y.rt∧y.rt≤255) (hK:BoL W y.kp y.kn y.kc K):Calls Tryz.prog 3 #[.agg (ycs y)] W fun e w'=>e=.returned (.bool true)∧Below W.heap.size W w':=by
 have HI:=hid I
 clear I
 have HOK0:=hid hok
 have HKY:=hid fun w' (hb:Below W.heap.size W w')=>hK.later hb
 obtain⟨W1,hW1,hy,hb1⟩:∃ W1,W.alloc (.cells (ycs y) 29)=W1∧YB W1 W.heap.size y∧Below W.heap.size W W1:=⟨_,rfl,YB.new W y,(Below.refl _ _).alloc (Nat.le_refl _) _⟩
 obtain⟨B0,hB⟩:∃ B0,W.heap.size=B0:=⟨_,rfl⟩
 rw [hB] at hy
 have HY:=hid hy
 have HW1:=hid hW1
 have HB1:=hid hb1
 have HRE:=hid hB
 have HW:=hid fun w' (hb:Below W.heap.size W w')=>hw.later hb
 have HRM:=hid fun w' (hb:Below W.heap.size W w')=>PgM.later hR hb
 have HK:=hid fun w' (hb:Below W.heap.size W w')=>hK.later hb
 have HOK:=hid hok
 have HRT:=hid hrt
 have hfew:∀ w,Calls Tryz.prog 7 #[.agg (pcs y.p)] w fun e w'=>e=.returned (.int .i64 (fewI y.p.ln y.p.tn y.p.wn))∧Below w.heap.size w w':=fun w=>few_p _ _ _ _ _ _ _ _ _ _ _ _ _ _ _ _ w
 obtain⟨kp,hkp⟩:∃ kp,y.kp=kp:=⟨_,rfl⟩
 obtain⟨kn,hkn⟩:∃ kn,y.kn=kn:=⟨_,rfl⟩
 obtain⟨kc,hkc⟩:∃ kc,y.kc=kc:=⟨_,rfl⟩
 have HA:Hid (∀ w,YB w B0 y→w.cell? ⟨B0,10,none⟩=some (.int .u8 y.rt)∧w.cell? ⟨B0,11,none⟩=some (.slice kp kn kc)):=hid fun w h=>by
  have:=h.at
  rw [hkp,hkn,hkc] at this
  exact this
 rw [hkp,hkn,hkc] at HK
 have HKN:Hid (y.kn=kn):=hid hkn
 clear hW1 hy hb1 hB hw hR hok hrt hK hkp hkn hkc
 have HF:=hid hfew
 clear hfew
 have a11:=(HA.out _ HY.out).2
 by_cases qf:y.p.ln≤20∧y.p.tn≤30∧y.p.wn≤20
 case neg =>
  have hfw:=HF.out W1
  rw [show fewI y.p.ln y.p.tn y.p.wn=0 from if_neg qf] at hfw
  clear qf
  go_enter Tryz.func3,Tryz.ntmps3
  go_upto_region 1 with (fail)
  rw [HW1.out,HRE.out]
  go_wp2_with (first | ((with_reducible refine z2m HY.out ?_ ?_);rfl))
  refine hfw.mono ?_
  rintro e w2 ⟨rfl,h2⟩
  have HB2:=hid (HB1.out.trans (h2.mono HB1.out.size))
  clear h2 hfw a11
  go_wp2_with fail
  refine (z7n _ (HW.out _ HB2.out)).mono ?_
  rintro e wz ⟨rfl,hz⟩
  have HBZ:=hid (HB2.out.trans (hz.mono HB2.out.size))
  clear hz
  go_wp2_with fail
  go_ret
  exact⟨rfl,HBZ.out⟩
 have hfw:=HF.out W1
 rw [show fewI y.p.ln y.p.tn y.p.wn=1 from if_pos qf] at hfw
 have HQF:=hid qf
 clear qf HF
 by_cases qk:kn≤60
 case neg =>
  have hd1:decide (60<(kn:Int))=true:=decide_eq_true (by omega)
  have hd2:decide (60<kn)=true:=decide_eq_true (by omega)
  clear qk
  go_enter Tryz.func3,Tryz.ntmps3
  go_upto_region 1 with (fail)
  rw [HW1.out,HRE.out]
  go_wp2_with (first | ((with_reducible refine z2m HY.out ?_ ?_);rfl))
  refine hfw.mono ?_
  rintro e w2 ⟨rfl,h2⟩
  have HB2:=hid (HB1.out.trans (h2.mono HB1.out.size))
  have HY2:=hid (HY.out.later h2)
  clear h2 hfw a11
  have a11:=(HA.out _ HY2.out).2
  go_wp2_with fail
  refine (z7n _ (HW.out _ HB2.out)).mono ?_
  rintro e wz ⟨rfl,hz⟩
  have HBZ:=hid (HB2.out.trans (hz.mono HB2.out.size))
  clear hz
  go_wp2_with fail
  go_ret
  exact⟨rfl,HBZ.out⟩
 have hd1:decide (60<(kn:Int))=false:=decide_eq_false (by omega)
 have hd2:decide (60<kn)=false:=decide_eq_false (by omega)
 have HGD:Hid (∀ w',Below W.heap.size W w'→Calls Tryz.prog 8 #[.int .i64 4,.int .i64 4,.agg (pcs y.p)] w' fun e w''=>e=.returned (.bool (z0l 4 4 (y.p.pg L T M)))∧Below w'.heap.size w' w''):=hid fun w' hb=>rgood_p 4 4 y.p.pk y.p.od y.p.po y.p.lp y.p.ln y.p.lcp y.p.tp y.p.tn y.p.tcp y.p.wp y.p.wn y.p.wcp y.p.sk y.p.fr y.p.to y.p.q L T M w' (HRM.out w' hb) HOK.out (by have:=HQF.out;omega)
 obtain⟨P,hP⟩:∃ P,y.p.pg L T M=P:=⟨_,rfl⟩
 have HPE:=hid hP
 rw [hP] at HGD HOK
 clear hP
 cases hg:z0l 4 4 P with
 | false =>
  rw [hg] at HGD
  clear hg
  go_enter Tryz.func3,Tryz.ntmps3
  go_upto_region 1 with (fail)
  rw [HW1.out,HRE.out]
  go_wp2_with (first | ((with_reducible refine z2m HY.out ?_ ?_);rfl))
  refine hfw.mono ?_
  rintro e w2 ⟨rfl,h2⟩
  have HB2:=hid (HB1.out.trans (h2.mono HB1.out.size))
  have HY2:=hid (HY.out.later h2)
  clear h2 hfw a11
  have a11:=(HA.out _ HY2.out).2
  go_wp2_with ((with_reducible refine wpList_load_ypg HY2.out ?_ ?_ ?_);rfl;rfl)
  refine (HGD.out _ HB2.out).mono ?_
  rintro e w3 ⟨rfl,h3⟩
  have HB3:=hid (HB2.out.trans (h3.mono HB2.out.size))
  clear h3 a11
  go_wp2_with fail
  refine (z7n _ (HW.out _ HB3.out)).mono ?_
  rintro e wz ⟨rfl,hz⟩
  have HBZ:=hid (HB3.out.trans (hz.mono HB3.out.size))
  clear hz
  go_wp2_with fail
  go_ret
  exact⟨rfl,HBZ.out⟩
 | true =>
 rw [hg] at HGD
 have HG:=hid hg
 clear hg
 go_enter Tryz.func3,Tryz.ntmps3
 go_upto_region 1 with (fail)
 rw [HW1.out,HRE.out]
 go_wp2_with (first | ((with_reducible refine z2m HY.out ?_ ?_);rfl))
 refine hfw.mono ?_
 rintro e w2 ⟨rfl,h2⟩
 have HB2:=hid (HB1.out.trans (h2.mono HB1.out.size))
 have HB12:=hid h2
 have HY2:=hid (HY.out.later h2)
 clear h2 hfw a11
 have a11:=(HA.out _ HY2.out).2
 go_wp2_with ((with_reducible refine wpList_load_ypg HY2.out ?_ ?_ ?_);rfl;rfl)
 refine (HGD.out _ HB2.out).mono ?_
 rintro e w3 ⟨rfl,h3⟩
 have HB3:=hid (HB2.out.trans (h3.mono HB2.out.size))
 have HB13:=hid (HB12.out.trans (h3.mono HB12.out.size))
 have HY3:=hid (HY2.out.later h3)
 clear h3 a11 hd1 hd2 HGD HY2 HB2 HB12
 obtain⟨R,hRr⟩:∃ R,y.rt % 5=R:=⟨_,rfl⟩
 have HR5:Hid (0≤R∧R≤4):=hid (by have:=HRT.out;omega)
 have hrt0:0≤y.rt:=HRT.out.1
 have a10:=(HA.out _ HY3.out).1
 have HG0:Hid (z0l 4 4 (y.p.pg L T M)=true):=hid (by rw [HPE.out];exact HG.out)
 go_upto_region 4 with (first | ((with_reducible refine z4z HY3.out ?_ ?_);rfl) | ((with_reducible refine wpList_storen_y y rfl ?_ ?_ ?_);rfl;rfl))
 have hbs:Below w3.heap.size w3 (w3.alloc (.cells (ycs y) 29)):=(Below.refl _ _).alloc (Nat.le_refl _) _
 have hyp:YB (w3.alloc (.cells (ycs y) 29)) w3.heap.size y:=YB.new w3 y
 obtain⟨w4,hw4⟩:∃ w4,w3.alloc (.cells (ycs y) 29)=w4:=⟨_,rfl⟩
 obtain⟨Bp,hBp⟩:∃ Bp,w3.heap.size=Bp:=⟨_,rfl⟩
 rw [hw4] at hbs hyp
 rw [hw4,hBp]
 rw [hBp] at hyp
 have hch:Chg (fun k=>k=Bp) w4 (w4.setCell ⟨Bp,11,none⟩ (.slice none 0 0)):=(Chg.refl _ _).setCell _ _ fun _=>rfl
 have hb35:Below w3.heap.size w3 (w4.setCell ⟨Bp,11,none⟩ (.slice none 0 0)):=Chg.below hbs hbs.size hch fun k hk=>by rw [hk,hBp];exact Nat.le_refl _
 have HB35:=hid hb35
 have HYN:=hid (noK_put hyp)
 have f11:=z0o 11 hyp
 have a11:=hyp.at.2
 clear hbs hw4 hBp hch hb35
 try simp only [Act.put]
 go_upto_region 5 with (fail)
 clear f11 a11 hyp a10
 obtain⟨w5,hw5⟩:∃ w5,w4.setCell ⟨Bp,11,none⟩ (.slice none 0 0)=w5:=⟨_,rfl⟩
 rw [hw5] at HB35 HYN
 rw [hw5]
 clear hw5
 have HB15:=hid (HB13.out.trans (HB35.out.mono HB13.out.size))
 have HB5:=hid (HB3.out.trans (HB35.out.mono HB3.out.size))
 clear HB35 HB13 HB3 HY3
 have hf1:=cr_follow HI.out (noK y) L T M [] w5 (HW.out _ HB5.out) (HRM.out _ HB5.out) HOK0.out HG0.out HQF.out HRT.out (SlG.empty w5) (Nat.zero_le _)
 go_wp2_with ((with_reducible refine z4z HYN.out ?_ ?_);rfl)
 refine hf1.mono ?_
 rintro e w6 ⟨c,Bj,p,n,m,H,X,rfl,hsl,hln,hfe,hb6⟩
 have HB16:=hid (HB15.out.trans (hb6.mono HB15.out.size))
 have hxo:X.o=1:=hfe.no rfl
 have hcn:=hsl.cell (by omega)
 obtain⟨b,off,hp,_,hc⟩:=hcn
 have hgd:(H ++ [rvK X]).getD n rz=rvK X:=by rw [← hln];simp [List.getD]
 have ho0:=hc n (by omega) 9 (.int .u8 1) (by rw [hgd];show some (Value.int .u8 X.o)=_;rw [hxo])
 have HO6:Hid (w6.cell? ⟨b,off+n*20+9,none⟩=some (.int .u8 1)):=hid ho0
 have hcap:=hsl.cap
 have hmax:=hsl.max
 subst hp
 clear hsl hln hfe hxo hc hgd ho0 hf1
 go_upto_region 6 with ((with_reducible refine z2t c rfl ?_ ?_ ?_);rfl;rfl)
 have hbc:Below w6.heap.size w6 (w6.alloc (.cells (ccs c) 34)):=(Below.refl _ _).alloc (Nat.le_refl _) _
 obtain⟨w7,hw7⟩:∃ w7,w6.alloc (.cells (ccs c) 34)=w7:=⟨_,rfl⟩
 rw [hw7] at hbc
 rw [hw7]
 have HB17:=hid (HB16.out.trans (hbc.mono HB16.out.size))
 have o9:w7.cell? ⟨b,off+n*20+9,none⟩=some (.int .u8 1):=(hbc.cell (World.block_lt_of_cell? _ _ HO6.out)).trans HO6.out
 have HB7:=hid (HB1.out.trans (HB17.out.mono HB1.out.size))
 have HY7:=hid (HY.out.later HB17.out)
 clear hbc hw7 HO6 hb6 HB16 HB15 HB5
 try simp only [Act.put]
 have hnz:(n:Int)<(n:Int)+1:=by omega
 have hnb:n≤9223372036854775806:=by
  have:=hmax
  unfold maxLen at this
  omega
 go_upto_region 8 with (fail)
 clear o9 hnz hnb hcap hmax
 have hf2:=cr_follow HI.out y L T M K w7 (HW.out _ HB7.out) (HRM.out _ HB7.out) HOK0.out HG0.out HQF.out HRT.out (HKY.out _ HB7.out) (by rw [HKN.out];exact qk)
 go_wp2_with ((with_reducible refine z4z HY7.out ?_ ?_);rfl)
 refine hf2.mono ?_
 rintro e w8 ⟨c2,Bj2,p2,n2,m2,H2,X2,rfl,hsl,hln,hfe,hb8⟩
 rw [hRr] at hfe
 have HB18:=hid (HB17.out.trans (hb8.mono HB17.out.size))
 have hcn:=hsl.cell (by omega)
 obtain⟨b2,off2,hp,_,_⟩:=hcn
 have hcap:=hsl.cap
 have hmax:=hsl.max
 have hnb:n2+1≤9223372036854775807:=by
  have:=hsl.max
  unfold maxLen at this
  omega
 subst hp
 have HHL:Hid ((H2 ++ [rvK X2]).length=n2+1):=hid hsl.len
 have hfo:=hfe.o
 have e5:cntK (H2.map ofR ++ [X2]) 5=cntV (H2 ++ [rvK X2]) 5:=by
  rw [z8e,cntV_map]
  unfold cntV
  rw [List.countP_append,List.countP_singleton]
  have:(rvK X2).k=X2.k:=rfl
  rw [this]
  by_cases h:X2.k=5 <;> simp [h]
 have e8:cntK (H2.map ofR ++ [X2]) 8=cntV (H2 ++ [rvK X2]) 8:=by
  rw [z8e,cntV_map]
  unfold cntV
  rw [List.countP_append,List.countP_singleton]
  have:(rvK X2).k=X2.k:=rfl
  rw [this]
  by_cases h:X2.k=8 <;> simp [h]
 rw [e5,e8] at hfo
 have HFO:=hid hfo
 have hgd:(H2 ++ [rvK X2]).getD n2 rz=rvK X2:=by rw [← hln];simp [List.getD]
 have HOC:Hid (∀ w',Below w8.heap.size w8 w'→w'.cell? ⟨b2,off2+n2*20+9,none⟩=some (.int .u8 X2.o)):=hid fun w' hb=>by
  obtain⟨b',off',hp',_,hc⟩:=(hsl.later hb).cell (by omega)
  cases hp'
  exact hc n2 (by omega) 9 (.int .u8 X2.o) (by rw [hgd];rfl)
 obtain⟨HH,hHH⟩:∃ HH,H2 ++ [rvK X2]=HH:=⟨_,rfl⟩
 rw [hHH] at HHL HFO
 have HKC:Hid (∀ w',Below w8.heap.size w8 w'→∀ j,j<n2+1→w'.cell? ⟨b2,off2+j*20,none⟩=some (.int .u8 (HH.getD j rz).k)):=hid fun w' hb j hj=>by
  obtain⟨b',off',hp',_,hc⟩:=(hsl.later hb).cell (by omega)
  cases hp'
  have:=hc j hj 0 (.int .u8 (HH.getD j rz).k) (by rw [hHH];rfl)
  simpa using this
 clear hsl hln hfe hf2 hfo e5 e8 hgd hHH
 go_upto_region 9 with ((with_reducible refine z2t c2 rfl ?_ ?_ ?_);rfl;rfl)
 have hbc:Below w8.heap.size w8 (w8.alloc (.cells (ccs c2) 34)):=(Below.refl _ _).alloc (Nat.le_refl _) _
 obtain⟨w9,hw9⟩:∃ w9,w8.alloc (.cells (ccs c2) 34)=w9:=⟨_,rfl⟩
 rw [hw9] at hbc
 rw [hw9]
 have HB19:=hid (HB18.out.trans (hbc.mono HB18.out.size))
 have HBC:=hid hbc
 clear hbc hw9 hb8 HB18 HB17 HB7 HY7
 try simp only [Act.put]
 go_wp2_with fail
 go_loopw [12,13,14] (fun s12 s13 s14 wr=>∃ (j a b:Nat),j≤n2+1∧s14=.int .i64 (j:Int)∧s12=.int .i64 (a:Int)∧s13=.int .i64 (b:Int)∧Hid (cntV (HH.take j) 5=a)∧Hid (cntV (HH.take j) 8=b)∧wr=w9) (fun _ _ s14 _=>n2+1-(Go.RowKit.intOf s14).toNat)
 case atStart=>exact⟨0,0,0,Nat.zero_le _,rfl,rfl,rfl,hid (by rw [List.take_zero];rfl),hid (by rw [List.take_zero];rfl),rfl⟩
 case round =>
  obtain⟨j,a,b3,hj,rfl,rfl,rfl,HA5,HA8,rfl⟩:=hrel
  have ha5:a≤j:=by rw [← HA5.out];exact cntV_le HH 5 j
  have ha8:b3≤j:=by rw [← HA8.out];exact cntV_le HH 8 j
  by_cases hlt:j<n2+1
  case pos =>
   have hlt1:(j:Int)<(n2:Int)+1:=by omega
   have hk0:=HKC.out _ HBC.out j hlt
   have h5:=cntV_one HH 5 j (by rw [HHL.out];exact hlt)
   have h8:=cntV_one HH 8 j (by rw [HHL.out];exact hlt)
   rw [HA5.out] at h5
   rw [HA8.out] at h8
   generalize (HH.getD j rz).k=k at *
   cases q5:(k==5) with
   | true =>
    have q8:(k==8)=false:=by
     have:k=5:=by simpa using q5
     rw [this]
     rfl
    rw [q5,if_pos rfl] at h5
    rw [q8,if_neg (by simp)] at h8
    have H5:=hid h5
    have H8:=hid h8
    clear h5 h8
    go_wp2_with fail
    go_roundw
    case rel=>exact⟨j+1,a+1,b3,by omega,by go_num,by go_num,rfl,H5,hid (by rw [H8.out,Nat.add_zero]),by first | rfl | trivial⟩
    case measure=>simp [Go.RowKit.intOf];omega
   | false =>
    rw [q5,if_neg (by simp)] at h5
    have H5:=hid h5
    clear h5
    cases q8:(k==8) with
    | true =>
     rw [q8,if_pos rfl] at h8
     have H8:=hid h8
     clear h8
     go_wp2_with fail
     go_roundw
     case rel=>exact⟨j+1,a,b3+1,by omega,by go_num,rfl,by go_num,hid (by rw [H5.out,Nat.add_zero]),H8,by first | rfl | trivial⟩
     case measure=>simp [Go.RowKit.intOf];omega
    | false =>
     rw [q8,if_neg (by simp)] at h8
     have H8:=hid h8
     clear h8
     go_wp2_with fail
     go_roundw
     case rel=>exact⟨j+1,a,b3,by omega,by go_num,rfl,rfl,hid (by rw [H5.out,Nat.add_zero]),hid (by rw [H8.out,Nat.add_zero]),by first | rfl | trivial⟩
     case measure=>simp [Go.RowKit.intOf];omega
  obtain rfl:j=n2+1:=by omega
  have hfo:=HFO.out
  have hall:HH.take (n2+1)=HH:=by rw [← HHL.out,List.take_length]
  have h5:=HA5.out
  have h8:=HA8.out
  rw [hall] at h5 h8
  rw [h5,h8] at hfo
  have HY9:=hid (HY.out.later HB19.out)
  have a10:=(HA.out _ HY9.out).1
  have o9:=HOC.out _ HBC.out
  have hnz:(n2:Int)<(n2:Int)+1:=by omega
  have HBW:=hid (HB1.out.trans (HB19.out.mono HB1.out.size))
  clear hall h5 h8 HA5 HA8 hj
  rcases hfo with ⟨g1,g2,g3⟩ | ⟨g1,g2,g3⟩
  · rw [g1] at o9
    obtain rfl:b3=0:=g2
    have dl:decide (R<(a:Int))=false:=decide_eq_false (by omega)
    clear g1 g3
    go_wp2_with fail
    refine (z7n _ (HW.out _ HBW.out)).mono ?_
    rintro e wz ⟨rfl,hz⟩
    have HBZ:=hid (HBW.out.trans (hz.mono HBW.out.size))
    clear hz
    go_wp2_with fail
    go_ret
    exact⟨rfl,HBZ.out⟩
  · rw [g1] at o9
    obtain rfl:b3=1:=g2
    have dl:decide (R<(a:Int))=true:=decide_eq_true (by omega)
    clear g1 g3
    go_wp2_with fail
    refine (z7n _ (HW.out _ HBW.out)).mono ?_
    rintro e wz ⟨rfl,hz⟩
    have HBZ:=hid (HBW.out.trans (hz.mono HBW.out.size))
    clear hz
    go_wp2_with fail
    go_ret
    exact⟨rfl,HBZ.out⟩
end Go.Proofs.YtclbkfpbdidaiaaGreatDoor
