import Derived.Test.YtnpjpelbcmgodaaGreatDoorPA99
import Derived.Test.YtnpjpelbcmgodaaGreatDoorPA35
import Derived.Test.YtnpjpelbcmgodaaGreatDoorPA06
namespace Go.Proofs.YtnpjpelbcmgodaaGreatDoor
open Go.Lib (hid)
set_option maxHeartbeats 8000000
open Go.RowKit Go.ChangeShapes Go.WideShapes
set_option linter.unusedVariables false
set_option linter.unusedSimpArgs false
set_option maxRecDepth 10000
theorem rapply_7 (p:Option Addr) (n c:Nat) (L:List Tv) (at_:Int) (r:Rv) (La:List Ln) (Ta:List Tk) (Ma:List Ln) (W:World) (hL:TL W p n c L) (hn:n≤1000) (hsm:∀ t∈L,Tcok t.c∧t.n≤1000∧0≤t.c.sz∧t.c.sz≤1099511627776) (hP:RvM W r La Ta Ma) (hok:Rxok (r.x La Ta Ma)) (h1:r.ln≤20∧r.tn≤30∧r.wn≤20) (hg:z0v (r.x La Ta Ma)=true) (hk:r.k=7) (t:Tv) (ht:getT Tv.id L r.tx=some t) :
 Calls Tryz.prog 10 #[.slice p n c,.int .i64 at_,.agg (rcs r)] W (z4k W p L (appC (L.map (·.c)) at_ (r.x La Ta Ma)).1 (appC (L.map (·.c)) at_ (r.x La Ta Ma)).2):=by
 have hwz:=z3o hg
 have HL:=hid hL
 have HNN:=hid hn
 obtain⟨W1,hW1,hb1⟩:∃ W1,W.alloc (.cells (rcs r) 40)=W1∧Below W.heap.size W W1:=⟨_,rfl,(Below.refl _ _).alloc (Nat.le_refl _) _⟩
 obtain⟨Y,hY⟩:∃ Y,W.heap.size=Y:=⟨_,rfl⟩
 have hrb:=RB.new W r
 rw [hW1,hY] at hrb
 have HY1:=hid hrb
 have HW1:=hid hW1
 have HB1:=hid hb1
 have HYE:=hid hY
 have HGD:=hid (z2k r La Ta Ma W1 (hP.later hb1) hok ⟨by omega,by omega,by omega⟩)
 have HSZ:=hid fun w (hb:Below W.heap.size W w)=>z4m r La Ta Ma w (hP.later hb) hok h1
 have HGT:=hid fun w (hb:Below W.heap.size W w)=>z2t p n c L r.tx w (hL.row.later hb) (by omega)
 rw [ht] at HGT
 rw [hg] at HGD
 obtain⟨htm,_⟩:=z2y ht
 obtain⟨htc,htn,hts⟩:=hsm t htm
 have htw:=hL.each t htm
 obtain⟨S,hS⟩:∃ S,t.c.sz+z1h (r.x La Ta Ma)=S:=⟨_,rfl⟩
 have HSW:Hid (IntKind.i64.wrap (t.c.sz+z1h (r.x La Ta Ma))=S):=hid (by
  rw [← hS]
  unfold IntKind.wrap;simp [IntKind.signed,IntKind.bits];omega)
 have HLC:=hid fun w (hb:Below W.heap.size W w)=>z4o ⟨⟨t.c.id,t.c.sg,t.c.st,t.c.cp,t.c.dd,t.c.dn,t.c.fs,S⟩,t.p,t.n,t.m⟩ w (htw.later hb) htc.dn (by simp only;omega)
 have e0:z1v ⟨t.c.id,t.c.sg,t.c.st,t.c.cp,t.c.dd,t.c.dn,t.c.fs,S⟩=z1v t.c:=rfl
 simp only [e0] at HLC
 have HTW:=hid htw
 have HTM:=hid htm
 have HTN:=hid htn
 have hap:=appC_7 (at_:=at_) (L.map (·.c)) (r.x La Ta Ma) hg hk (z3s ht)
 obtain⟨M',z',hmz⟩:∃ M' z',appC (L.map (·.c)) at_ (r.x La Ta Ma)=(M',z'):=⟨_,_,rfl⟩
 rw [hmz] at hap ⊢
 try rw [hS] at hap
 have HAP:=hid hap
 have e2:(r.k==2)=false:=by rw [hk];rfl
 have e3:(r.k==3)=false:=by rw [hk];rfl
 have e4:(r.k==4)=false:=by rw [hk];rfl
 have e5:(r.k==5)=false:=by rw [hk];rfl
 have e6:(r.k==6)=false:=by rw [hk];rfl
 have e7:(r.k==7)=true:=by rw [hk];rfl
 have l2:decide (r.k<2)=false:=by rw [hk];rfl
 have l7:decide (7<r.k)=false:=by rw [hk];rfl
 have m2:¬ r.k<2:=by omega
 have m7:¬ 7<r.k:=by omega
 have HHK:=hid hk
 have HWZ:=hid hwz
 generalize z1v t.c=lz at *
 obtain⟨⟨lk,ld⟩,lb⟩:=lz
 dsimp only at HLC HAP ⊢
 generalize z1h (r.x La Ta Ma)=sx at *
 generalize z0v (r.x La Ta Ma)=gx at *
 clear hwz hL hn hsm hP hok h1 hg hk ht htm htc htn hts htw hS e0 hap hmz hW1 hY hb1 hrb
 go_enter Tryz.func10,Tryz.ntmps10
 go_upto_region 1 with (fail)
 rw [HW1.out,HYE.out]
 go_wp2_with ((with_reducible refine z0n HY1.out ?_ ?_);rfl)
 refine HGD.out.mono ?_
 rintro e2 w2 ⟨rfl,hb2⟩
 have HB2:=hid (HB1.out.trans (hb2.mono HB1.out.size))
 have HY2:=hid (HY1.out.later hb2)
 clear hb2 HB1 HY1 HGD HW1
 obtain⟨a0,a1,a2,a3,a4,a5,a6,a7,a8,a9⟩:=HY2.out.at
 go_wp2_with fail
 clear a0 a1 a2 a3 a4 a5 a6 a7 a8 a9
 refine (HGT.out _ HB2.out).mono ?_
 rintro e3 w3 ⟨rfl,hb3⟩
 simp only [Option.getD_some,Option.isSome_some]
 have hbn:Below w3.heap.size w3 (w3.alloc (.cells #[.int .u32 t.c.id,.int .u32 t.c.sg,.int .u8 t.c.st,.bool t.c.cp,.bool t.c.dd,.slice t.p t.n t.m,.int .i64 t.c.fs,.int .i64 t.c.sz] 58)):=(Below.refl _ _).alloc (Nat.le_refl _) _
 have HX4:=hid (z0c w3 (.cells #[.int .u32 t.c.id,.int .u32 t.c.sg,.int .u8 t.c.st,.bool t.c.cp,.bool t.c.dd,.slice t.p t.n t.m,.int .i64 t.c.fs,.int .i64 t.c.sz] 58))
 have HB4:=hid (HB2.out.trans ((hb3.trans (hbn.mono hb3.size)).mono HB2.out.size))
 have HY4:=hid ((HY2.out.later hb3).later hbn)
 have HNE:Hid (Y≠w3.heap.size∧W.heap.size≤w3.heap.size):=hid ⟨by have:=(HY2.out.later hb3).lt;omega,Nat.le_trans HB2.out.size hb3.size⟩
 clear hb3 hbn HB2 HY2 HGT
 go_upto_region 4 with (fail)
 generalize w3.alloc (.cells #[.int .u32 t.c.id,.int .u32 t.c.sg,.int .u8 t.c.st,.bool t.c.cp,.bool t.c.dd,.slice t.p t.n t.m,.int .i64 t.c.fs,.int .i64 t.c.sz] 58)=w4 at *
 generalize w3.heap.size=X at *
 obtain⟨a0,a1,a2,a3,a4,a5,a6,a7,a8,a9⟩:=HY4.out.at
 go_wp2_with fail
 clear a0 a1 a2 a3 a4 a5 a6 a7 a8 a9
 have HYD:Hid (RB w4.drew Y r):=hid HY4.out
 have HXD:Hid (w4.drew.heap[X]?=some (.cells #[.int .u32 t.c.id,.int .u32 t.c.sg,.int .u8 t.c.st,.bool t.c.cp,.bool t.c.dd,.slice t.p t.n t.m,.int .i64 t.c.fs,.int .i64 t.c.sz] 58 (0,0))):=hid HX4.out
 have HBD0:=hid (z0h HB4.out 1)
 have HBD:Hid (Below W.heap.size W w4.drew):=hid HBD0.out
 clear HBD0 HY4 HX4 HB4
 refine wp_region_held_drew (S:=fun w'=>Hid (RB w' Y r)) (by kernel_rfl) HYD (fun hHeld=>?_)
 generalize w4.drew=w5 at *
 refine wpAnyH_take (i:=0) (oi:=⟨some 68,_,_,_,_,_⟩) (v:=.pointer (some ⟨X,7,none⟩)) rfl (by kernel_rfl) (by kernel_rfl) (by kernel_rfl) (fun _ _ _ h=>h) (Or.inl ⟨by rfl,fun w' hw'=>?_⟩) (by assumption) ?_
 · clear hHeld
   go_simp
 simp only [Act.put,sIB,sCZ,sCS]
 refine wpAnyH_take (i:=2) (oi:=⟨some 70,_,_,_,_,_⟩) (v:=.agg (rcs r)) rfl (by kernel_rfl) (by kernel_rfl) (by kernel_rfl) (fun _ _ _ h=>h) (Or.inl ⟨by rfl,fun w' hw'=>z1t rfl (Hid.out hw')⟩) (by assumption) ?_
 simp only [Act.put,sIB,sCZ,sCS]
 refine wpAnyH_ready (rs:=[1,3]) (by kernel_rfl) (by simp) (AllReadyH.cons rfl (fun K hK=>?_) (AllReadyH.cons rfl (fun K hK=>?_) (AllReadyH.nil)))
 · have c7:=z0a (j:=7) HXD.out rfl
   go_simp
   go_wp2_with fail
   have hSN:=hHeld
   refine hK.out _ _ hSN (fun hHeld2=>?_)
   try simp only [Act.put,sIB,sCZ,sCS]
   clear hSN hK K hHeld
   have hHeld:=hHeld2
   clear hHeld2
   clear c7
   refine wpAnyH_ready (rs:=[3]) (by kernel_rfl) (by simp) (AllReadyH.cons rfl (fun K hK=>?_) (AllReadyH.nil))
   go_simp
   go_wp2_with fail
   refine (HSZ.out _ HBD.out).mono ?_
   rintro e6 w6 ⟨rfl,hb6⟩
   have hSN:Hid (RB w6 Y r):=hid (hHeld.out.later hb6)
   have HX6:=hid (z0b HXD.out hb6)
   have HB6:=hid (HBD.out.trans (hb6.mono HBD.out.size))
   clear hb6 HXD HBD HSZ
   go_wp2_with fail
   refine hK.out _ _ hSN (fun hHeld2=>?_)
   try simp only [Act.put,sIB,sCZ,sCS]
   clear hSN hK K hHeld
   have hHeld:=hHeld2
   clear hHeld2
   have hw5:=HSW.out
   refine wpAnyH_take (i:=4) (oi:=⟨some 72,_,_,_,_,_⟩) (v:=.int .i64 S) rfl (by kernel_rfl) (by kernel_rfl) (by kernel_rfl) (fun _ _ _ h=>h) (Or.inl ⟨by rfl,fun w' hw'=>?_⟩) (by assumption) ?_
   · clear hHeld
     go_simp
   simp only [Act.put,sIB,sCZ,sCS]
   refine wpAnyH_take (i:=5) (oi:=⟨some 73,_,_,_,_,_⟩) (v:=.pointer (some ⟨X,7,none⟩)) rfl (by kernel_rfl) (by kernel_rfl) (by kernel_rfl) (fun _ _ _ h=>h) (Or.inl ⟨by rfl,fun w' hw'=>?_⟩) (by assumption) ?_
   · clear hHeld
     go_simp
   simp only [Act.put,sIB,sCZ,sCS]
   refine wpAnyH_ready (rs:=[6]) (by kernel_rfl) (by simp) (AllReadyH.cons rfl (fun K hK=>?_) (AllReadyH.nil))
   have q7:=z0a (j:=7) HX6.out rfl
   have f7:=z0m 7 HX6.out
   have HX7:Hid ((w6.setCell ⟨X,7,none⟩ (.int .i64 S)).heap[X]?=some (.cells #[.int .u32 t.c.id,.int .u32 t.c.sg,.int .u8 t.c.st,.bool t.c.cp,.bool t.c.dd,.slice t.p t.n t.m,.int .i64 t.c.fs,.int .i64 S] 58 (0,0))):=hid (z0p 7 _ HX6.out)
   have hSN:Hid (RB (w6.setCell ⟨X,7,none⟩ (.int .i64 S)) Y r):=hid (z4j hHeld.out HNE.out.1 7 _)
   have HY7:=hSN
   have HB7:Hid (Below W.heap.size W (w6.setCell ⟨X,7,none⟩ (.int .i64 S))):=hid (HB6.out.setCell HNE.out.2 _)
   clear HX6 HB6
   go_simp
   go_wp2_with fail
   refine hK.out _ _ hSN (fun hHeld2=>?_)
   try simp only [Act.put,sIB,sCZ,sCS]
   clear hSN hK K hHeld hHeld2 q7 f7 hw5
   refine wpAnyH_done (by kernel_rfl) ?_ _
   generalize w6.setCell ⟨X,7,none⟩ (.int .i64 S)=w7 at *
   obtain⟨b0,b1,b2,b3,b4,b5,b6,b7⟩:=z0g HX7.out
   go_wp2_with fail
   clear b0 b1 b2 b3 b4 b5 b6 b7
   refine (HLC.out _ HB7.out).mono ?_
   rintro e8 w8 ⟨rfl,hb8⟩
   have hbn:Below w8.heap.size w8 (w8.alloc (.cells #[.int .u8 lk.1,.int .u8 lk.2.1,.int .u8 lk.2.2,.int .i64 ld] 71)):=(Below.refl _ _).alloc (Nat.le_refl _) _
   have HZ9:=hid (z0c w8 (.cells #[.int .u8 lk.1,.int .u8 lk.2.1,.int .u8 lk.2.2,.int .i64 ld] 71))
   have HX9:=hid (z0b (z0b HX7.out hb8) hbn)
   have HY9:=hid ((HY7.out.later hb8).later hbn)
   have HB9:=hid (HB7.out.trans ((hb8.trans (hbn.mono hb8.size)).mono HB7.out.size))
   clear hb8 hbn HX7 HY7 HB7 HLC
   go_upto_region 13 with (fail)
   generalize w8.alloc (.cells #[.int .u8 lk.1,.int .u8 lk.2.1,.int .u8 lk.2.2,.int .i64 ld] 71)=w9 at *
   generalize w8.heap.size=Z at *
   by_cases h0:t.n=0
   · have hdn:t.c.dn=[]:=List.length_eq_zero_iff.1 (by rw [HTW.out.len];exact h0)
     have HAE:=hid (HAP.out.trans (if_pos hdn))
     have HDN:=hid hdn
     have g0:decide (0<(t.n:Int))=false:=decide_eq_false (by omega)
     have HH0:=hid h0
     have g1:¬ 0<(t.n:Int):=by omega
     clear hdn h0 HAP
     obtain⟨a0,a1,a2,a3,a4,a5,a6,a7,a8,a9⟩:=HY9.out.at
     obtain⟨b0,b1,b2,b3,b4,b5,b6,b7⟩:=z0g HX9.out
     go_wp2_with fail
     clear a0 a1 a2 a3 a4 a5 a6 a7 a8 a9 b0 b1 b2 b3 b4 b5 b6 b7
     refine (z3q p n c L r.tx w9 (HL.out.row.later HB9.out) (by have:=HNN.out;omega)).mono ?_
     rintro e10 w10 hg10
     have he:=HAE.out
     cases he
     obtain⟨v,hv⟩:∃ v,e10=.returned v:=by obtain⟨r1,d1,h1,_⟩:=hg10;exact⟨_,h1⟩
     subst hv
     obtain⟨r1,m1,d1,rfl,hga⟩:=z3y HL.out HB9.out hg10 rfl
     have HGA:=hid hga
     clear hga hg10
     go_wp2_with fail
     go_ret2
     exact HGA.out
   · have hdn:¬ t.c.dn=[]:=fun e=>h0 (by rw [← HTW.out.len,e];rfl)
     have HAE:=hid (HAP.out.trans (if_neg hdn))
     have HDN:=hid hdn
     have g0:decide (0<(t.n:Int))=true:=decide_eq_true (by omega)
     have g1:0<(t.n:Int):=by omega
     have HH0:=hid h0
     clear hdn h0 HAP
     obtain⟨a0,a1,a2,a3,a4,a5,a6,a7,a8,a9⟩:=HY9.out.at
     obtain⟨b0,b1,b2,b3,b4,b5,b6,b7⟩:=z0g HX9.out
     go_wp2_with fail
     go_ret2
     have he:=HAE.out
     cases he
     exact z0y HL.out HB9.out rfl
 · go_simp
   go_wp2_with fail
   refine (HSZ.out _ HBD.out).mono ?_
   rintro e6 w6 ⟨rfl,hb6⟩
   have hSN:Hid (RB w6 Y r):=hid (hHeld.out.later hb6)
   have HX6:=hid (z0b HXD.out hb6)
   have HB6:=hid (HBD.out.trans (hb6.mono HBD.out.size))
   clear hb6 HXD HBD HSZ
   go_wp2_with fail
   refine hK.out _ _ hSN (fun hHeld2=>?_)
   try simp only [Act.put,sIB,sCZ,sCS]
   clear hSN hK K hHeld
   have hHeld:=hHeld2
   clear hHeld2
   refine wpAnyH_ready (rs:=[1]) (by kernel_rfl) (by simp) (AllReadyH.cons rfl (fun K hK=>?_) (AllReadyH.nil))
   have c7:=z0a (j:=7) HX6.out rfl
   go_simp
   go_wp2_with fail
   have hSN:=hHeld
   refine hK.out _ _ hSN (fun hHeld2=>?_)
   try simp only [Act.put,sIB,sCZ,sCS]
   clear hSN hK K hHeld
   have hHeld:=hHeld2
   clear hHeld2
   clear c7
   have hw5:=HSW.out
   refine wpAnyH_take (i:=4) (oi:=⟨some 72,_,_,_,_,_⟩) (v:=.int .i64 S) rfl (by kernel_rfl) (by kernel_rfl) (by kernel_rfl) (fun _ _ _ h=>h) (Or.inl ⟨by rfl,fun w' hw'=>?_⟩) (by assumption) ?_
   · clear hHeld
     go_simp
   simp only [Act.put,sIB,sCZ,sCS]
   refine wpAnyH_take (i:=5) (oi:=⟨some 73,_,_,_,_,_⟩) (v:=.pointer (some ⟨X,7,none⟩)) rfl (by kernel_rfl) (by kernel_rfl) (by kernel_rfl) (fun _ _ _ h=>h) (Or.inl ⟨by rfl,fun w' hw'=>?_⟩) (by assumption) ?_
   · clear hHeld
     go_simp
   simp only [Act.put,sIB,sCZ,sCS]
   refine wpAnyH_ready (rs:=[6]) (by kernel_rfl) (by simp) (AllReadyH.cons rfl (fun K hK=>?_) (AllReadyH.nil))
   have q7:=z0a (j:=7) HX6.out rfl
   have f7:=z0m 7 HX6.out
   have HX7:Hid ((w6.setCell ⟨X,7,none⟩ (.int .i64 S)).heap[X]?=some (.cells #[.int .u32 t.c.id,.int .u32 t.c.sg,.int .u8 t.c.st,.bool t.c.cp,.bool t.c.dd,.slice t.p t.n t.m,.int .i64 t.c.fs,.int .i64 S] 58 (0,0))):=hid (z0p 7 _ HX6.out)
   have hSN:Hid (RB (w6.setCell ⟨X,7,none⟩ (.int .i64 S)) Y r):=hid (z4j hHeld.out HNE.out.1 7 _)
   have HY7:=hSN
   have HB7:Hid (Below W.heap.size W (w6.setCell ⟨X,7,none⟩ (.int .i64 S))):=hid (HB6.out.setCell HNE.out.2 _)
   clear HX6 HB6
   go_simp
   go_wp2_with fail
   refine hK.out _ _ hSN (fun hHeld2=>?_)
   try simp only [Act.put,sIB,sCZ,sCS]
   clear hSN hK K hHeld hHeld2 q7 f7 hw5
   refine wpAnyH_done (by kernel_rfl) ?_ _
   generalize w6.setCell ⟨X,7,none⟩ (.int .i64 S)=w7 at *
   obtain⟨b0,b1,b2,b3,b4,b5,b6,b7⟩:=z0g HX7.out
   go_wp2_with fail
   clear b0 b1 b2 b3 b4 b5 b6 b7
   refine (HLC.out _ HB7.out).mono ?_
   rintro e8 w8 ⟨rfl,hb8⟩
   have hbn:Below w8.heap.size w8 (w8.alloc (.cells #[.int .u8 lk.1,.int .u8 lk.2.1,.int .u8 lk.2.2,.int .i64 ld] 71)):=(Below.refl _ _).alloc (Nat.le_refl _) _
   have HZ9:=hid (z0c w8 (.cells #[.int .u8 lk.1,.int .u8 lk.2.1,.int .u8 lk.2.2,.int .i64 ld] 71))
   have HX9:=hid (z0b (z0b HX7.out hb8) hbn)
   have HY9:=hid ((HY7.out.later hb8).later hbn)
   have HB9:=hid (HB7.out.trans ((hb8.trans (hbn.mono hb8.size)).mono HB7.out.size))
   clear hb8 hbn HX7 HY7 HB7 HLC
   go_upto_region 13 with (fail)
   generalize w8.alloc (.cells #[.int .u8 lk.1,.int .u8 lk.2.1,.int .u8 lk.2.2,.int .i64 ld] 71)=w9 at *
   generalize w8.heap.size=Z at *
   by_cases h0:t.n=0
   · have hdn:t.c.dn=[]:=List.length_eq_zero_iff.1 (by rw [HTW.out.len];exact h0)
     have HAE:=hid (HAP.out.trans (if_pos hdn))
     have HDN:=hid hdn
     have g0:decide (0<(t.n:Int))=false:=decide_eq_false (by omega)
     have HH0:=hid h0
     have g1:¬ 0<(t.n:Int):=by omega
     clear hdn h0 HAP
     obtain⟨a0,a1,a2,a3,a4,a5,a6,a7,a8,a9⟩:=HY9.out.at
     obtain⟨b0,b1,b2,b3,b4,b5,b6,b7⟩:=z0g HX9.out
     go_wp2_with fail
     clear a0 a1 a2 a3 a4 a5 a6 a7 a8 a9 b0 b1 b2 b3 b4 b5 b6 b7
     refine (z3q p n c L r.tx w9 (HL.out.row.later HB9.out) (by have:=HNN.out;omega)).mono ?_
     rintro e10 w10 hg10
     have he:=HAE.out
     cases he
     obtain⟨v,hv⟩:∃ v,e10=.returned v:=by obtain⟨r1,d1,h1,_⟩:=hg10;exact⟨_,h1⟩
     subst hv
     obtain⟨r1,m1,d1,rfl,hga⟩:=z3y HL.out HB9.out hg10 rfl
     have HGA:=hid hga
     clear hga hg10
     go_wp2_with fail
     go_ret2
     exact HGA.out
   · have hdn:¬ t.c.dn=[]:=fun e=>h0 (by rw [← HTW.out.len,e];rfl)
     have HAE:=hid (HAP.out.trans (if_neg hdn))
     have HDN:=hid hdn
     have g0:decide (0<(t.n:Int))=true:=decide_eq_true (by omega)
     have g1:0<(t.n:Int):=by omega
     have HH0:=hid h0
     clear hdn h0 HAP
     obtain⟨a0,a1,a2,a3,a4,a5,a6,a7,a8,a9⟩:=HY9.out.at
     obtain⟨b0,b1,b2,b3,b4,b5,b6,b7⟩:=z0g HX9.out
     go_wp2_with fail
     go_ret2
     have he:=HAE.out
     cases he
     exact z0y HL.out HB9.out rfl
theorem rapply_bad (p:Option Addr) (n c:Nat) (L:List Tv) (at_:Int) (r:Rv) (La:List Ln) (Ta:List Tk) (Ma:List Ln) (W:World) (hL:TL W p n c L) (hn:n≤1000) (hsm:∀ t∈L,Tcok t.c∧t.n≤1000∧0≤t.c.sz∧t.c.sz≤1099511627776) (hP:RvM W r La Ta Ma) (hok:Rxok (r.x La Ta Ma)) (h1:r.ln≤20∧r.tn≤30∧r.wn≤20) (hg:z0v (r.x La Ta Ma)=false) :
 Calls Tryz.prog 10 #[.slice p n c,.int .i64 at_,.agg (rcs r)] W (z4k W p L (appC (L.map (·.c)) at_ (r.x La Ta Ma)).1 (appC (L.map (·.c)) at_ (r.x La Ta Ma)).2):=by
 have HL:=hid hL
 have HNN:=hid hn
 obtain⟨W1,hW1,hb1⟩:∃ W1,W.alloc (.cells (rcs r) 40)=W1∧Below W.heap.size W W1:=⟨_,rfl,(Below.refl _ _).alloc (Nat.le_refl _) _⟩
 obtain⟨Y,hY⟩:∃ Y,W.heap.size=Y:=⟨_,rfl⟩
 have hrb:=RB.new W r
 rw [hW1,hY] at hrb
 have HY1:=hid hrb
 have HW1:=hid hW1
 have HB1:=hid hb1
 have HYE:=hid hY
 have HGD:=hid (z2k r La Ta Ma W1 (hP.later hb1) hok ⟨by omega,by omega,by omega⟩)
 have HSZ:=hid fun w (hb:Below W.heap.size W w)=>z4m r La Ta Ma w (hP.later hb) hok h1
 have HGT:=hid fun w (hb:Below W.heap.size W w)=>z2t p n c L r.tx w (hL.row.later hb) (by omega)
 have HOF:=hid fun w (hb:Below W.heap.size W w)=>z5q p n c L r.sg w (hL.row.later hb) (by omega)
 obtain⟨M',z',hmz⟩:∃ M' z',appC (L.map (·.c)) at_ (r.x La Ta Ma)=(M',z'):=⟨_,_,rfl⟩
 have hap:appC (L.map (·.c)) at_ (r.x La Ta Ma)=(L.map (·.c),1):=if_pos (.inl hg)
 rw [hg] at HGD
 rw [hmz] at hap ⊢
 have HAP:=hid hap
 dsimp only
 generalize z0v (r.x La Ta Ma)=gx at *
 clear hL hn hsm hP hok h1 hg hap hmz hW1 hY hb1 hrb
 go_enter Tryz.func10,Tryz.ntmps10
 go_upto_region 1 with (fail)
 rw [HW1.out,HYE.out]
 go_wp2_with ((with_reducible refine z0n HY1.out ?_ ?_);rfl)
 refine HGD.out.mono ?_
 rintro e2 w2 ⟨rfl,hb2⟩
 have HB2:=hid (HB1.out.trans (hb2.mono HB1.out.size))
 have HY2:=hid (HY1.out.later hb2)
 clear hb2 HB1 HY1 HGD HW1
 obtain⟨a0,a1,a2,a3,a4,a5,a6,a7,a8,a9⟩:=HY2.out.at
 go_wp2_with fail
 go_ret2
 have he:=HAP.out
 cases he
 exact z0y HL.out HB2.out rfl
theorem rapply_lo (p:Option Addr) (n c:Nat) (L:List Tv) (at_:Int) (r:Rv) (La:List Ln) (Ta:List Tk) (Ma:List Ln) (W:World) (hL:TL W p n c L) (hn:n≤1000) (hsm:∀ t∈L,Tcok t.c∧t.n≤1000∧0≤t.c.sz∧t.c.sz≤1099511627776) (hP:RvM W r La Ta Ma) (hok:Rxok (r.x La Ta Ma)) (h1:r.ln≤20∧r.tn≤30∧r.wn≤20) (hg:z0v (r.x La Ta Ma)=true) (hk:r.k<2) :
 Calls Tryz.prog 10 #[.slice p n c,.int .i64 at_,.agg (rcs r)] W (z4k W p L (appC (L.map (·.c)) at_ (r.x La Ta Ma)).1 (appC (L.map (·.c)) at_ (r.x La Ta Ma)).2):=by
 have HL:=hid hL
 have HNN:=hid hn
 obtain⟨W1,hW1,hb1⟩:∃ W1,W.alloc (.cells (rcs r) 40)=W1∧Below W.heap.size W W1:=⟨_,rfl,(Below.refl _ _).alloc (Nat.le_refl _) _⟩
 obtain⟨Y,hY⟩:∃ Y,W.heap.size=Y:=⟨_,rfl⟩
 have hrb:=RB.new W r
 rw [hW1,hY] at hrb
 have HY1:=hid hrb
 have HW1:=hid hW1
 have HB1:=hid hb1
 have HYE:=hid hY
 have HGD:=hid (z2k r La Ta Ma W1 (hP.later hb1) hok ⟨by omega,by omega,by omega⟩)
 have HSZ:=hid fun w (hb:Below W.heap.size W w)=>z4m r La Ta Ma w (hP.later hb) hok h1
 have HGT:=hid fun w (hb:Below W.heap.size W w)=>z2t p n c L r.tx w (hL.row.later hb) (by omega)
 have HOF:=hid fun w (hb:Below W.heap.size W w)=>z5q p n c L r.sg w (hL.row.later hb) (by omega)
 obtain⟨M',z',hmz⟩:∃ M' z',appC (L.map (·.c)) at_ (r.x La Ta Ma)=(M',z'):=⟨_,_,rfl⟩
 have hap:appC (L.map (·.c)) at_ (r.x La Ta Ma)=(L.map (·.c),1):=if_pos (.inr (.inl hk))
 rw [hg] at HGD
 rw [hmz] at hap ⊢
 have HAP:=hid hap
 dsimp only
 have l2:decide (r.k<2)=true:=decide_eq_true hk
 have m2:=hk
 have HHK:=hid hk
 generalize z0v (r.x La Ta Ma)=gx at *
 clear hL hn hsm hP hok h1 hg hap hmz hW1 hY hb1 hrb hk
 go_enter Tryz.func10,Tryz.ntmps10
 go_upto_region 1 with (fail)
 rw [HW1.out,HYE.out]
 go_wp2_with ((with_reducible refine z0n HY1.out ?_ ?_);rfl)
 refine HGD.out.mono ?_
 rintro e2 w2 ⟨rfl,hb2⟩
 have HB2:=hid (HB1.out.trans (hb2.mono HB1.out.size))
 have HY2:=hid (HY1.out.later hb2)
 clear hb2 HB1 HY1 HGD HW1
 obtain⟨a0,a1,a2,a3,a4,a5,a6,a7,a8,a9⟩:=HY2.out.at
 go_wp2_with fail
 clear a0 a1 a2 a3 a4 a5 a6 a7 a8 a9
 go_ret2
 have he:=HAP.out
 cases he
 exact z0y HL.out HB2.out rfl
theorem rapply_hi (p:Option Addr) (n c:Nat) (L:List Tv) (at_:Int) (r:Rv) (La:List Ln) (Ta:List Tk) (Ma:List Ln) (W:World) (hL:TL W p n c L) (hn:n≤1000) (hsm:∀ t∈L,Tcok t.c∧t.n≤1000∧0≤t.c.sz∧t.c.sz≤1099511627776) (hP:RvM W r La Ta Ma) (hok:Rxok (r.x La Ta Ma)) (h1:r.ln≤20∧r.tn≤30∧r.wn≤20) (hg:z0v (r.x La Ta Ma)=true) (hk:7<r.k) :
 Calls Tryz.prog 10 #[.slice p n c,.int .i64 at_,.agg (rcs r)] W (z4k W p L (appC (L.map (·.c)) at_ (r.x La Ta Ma)).1 (appC (L.map (·.c)) at_ (r.x La Ta Ma)).2):=by
 have HL:=hid hL
 have HNN:=hid hn
 obtain⟨W1,hW1,hb1⟩:∃ W1,W.alloc (.cells (rcs r) 40)=W1∧Below W.heap.size W W1:=⟨_,rfl,(Below.refl _ _).alloc (Nat.le_refl _) _⟩
 obtain⟨Y,hY⟩:∃ Y,W.heap.size=Y:=⟨_,rfl⟩
 have hrb:=RB.new W r
 rw [hW1,hY] at hrb
 have HY1:=hid hrb
 have HW1:=hid hW1
 have HB1:=hid hb1
 have HYE:=hid hY
 have HGD:=hid (z2k r La Ta Ma W1 (hP.later hb1) hok ⟨by omega,by omega,by omega⟩)
 have HSZ:=hid fun w (hb:Below W.heap.size W w)=>z4m r La Ta Ma w (hP.later hb) hok h1
 have HGT:=hid fun w (hb:Below W.heap.size W w)=>z2t p n c L r.tx w (hL.row.later hb) (by omega)
 have HOF:=hid fun w (hb:Below W.heap.size W w)=>z5q p n c L r.sg w (hL.row.later hb) (by omega)
 obtain⟨M',z',hmz⟩:∃ M' z',appC (L.map (·.c)) at_ (r.x La Ta Ma)=(M',z'):=⟨_,_,rfl⟩
 have hap:appC (L.map (·.c)) at_ (r.x La Ta Ma)=(L.map (·.c),1):=if_pos (.inr (.inr hk))
 rw [hg] at HGD
 rw [hmz] at hap ⊢
 have HAP:=hid hap
 dsimp only
 have l2:decide (r.k<2)=false:=decide_eq_false (by omega)
 have m2:¬ r.k<2:=by omega
 have l7:decide (7<r.k)=true:=decide_eq_true hk
 have m7:=hk
 have HHK:=hid hk
 generalize z0v (r.x La Ta Ma)=gx at *
 clear hL hn hsm hP hok h1 hg hap hmz hW1 hY hb1 hrb hk
 go_enter Tryz.func10,Tryz.ntmps10
 go_upto_region 1 with (fail)
 rw [HW1.out,HYE.out]
 go_wp2_with ((with_reducible refine z0n HY1.out ?_ ?_);rfl)
 refine HGD.out.mono ?_
 rintro e2 w2 ⟨rfl,hb2⟩
 have HB2:=hid (HB1.out.trans (hb2.mono HB1.out.size))
 have HY2:=hid (HY1.out.later hb2)
 clear hb2 HB1 HY1 HGD HW1
 obtain⟨a0,a1,a2,a3,a4,a5,a6,a7,a8,a9⟩:=HY2.out.at
 go_wp2_with fail
 clear a0 a1 a2 a3 a4 a5 a6 a7 a8 a9
 go_ret2
 have he:=HAP.out
 cases he
 exact z0y HL.out HB2.out rfl
theorem rapply_none (p:Option Addr) (n c:Nat) (L:List Tv) (at_:Int) (r:Rv) (La:List Ln) (Ta:List Tk) (Ma:List Ln) (W:World) (hL:TL W p n c L) (hn:n≤1000) (hsm:∀ t∈L,Tcok t.c∧t.n≤1000∧0≤t.c.sz∧t.c.sz≤1099511627776) (hP:RvM W r La Ta Ma) (hok:Rxok (r.x La Ta Ma)) (h1:r.ln≤20∧r.tn≤30∧r.wn≤20) (hg:z0v (r.x La Ta Ma)=true) (hk:3≤r.k∧r.k≤7) (ht:getT Tv.id L r.tx=none) :
 Calls Tryz.prog 10 #[.slice p n c,.int .i64 at_,.agg (rcs r)] W (z4k W p L (appC (L.map (·.c)) at_ (r.x La Ta Ma)).1 (appC (L.map (·.c)) at_ (r.x La Ta Ma)).2):=by
 have HL:=hid hL
 have HNN:=hid hn
 obtain⟨W1,hW1,hb1⟩:∃ W1,W.alloc (.cells (rcs r) 40)=W1∧Below W.heap.size W W1:=⟨_,rfl,(Below.refl _ _).alloc (Nat.le_refl _) _⟩
 obtain⟨Y,hY⟩:∃ Y,W.heap.size=Y:=⟨_,rfl⟩
 have hrb:=RB.new W r
 rw [hW1,hY] at hrb
 have HY1:=hid hrb
 have HW1:=hid hW1
 have HB1:=hid hb1
 have HYE:=hid hY
 have HGD:=hid (z2k r La Ta Ma W1 (hP.later hb1) hok ⟨by omega,by omega,by omega⟩)
 have HSZ:=hid fun w (hb:Below W.heap.size W w)=>z4m r La Ta Ma w (hP.later hb) hok h1
 have HGT:=hid fun w (hb:Below W.heap.size W w)=>z2t p n c L r.tx w (hL.row.later hb) (by omega)
 have HOF:=hid fun w (hb:Below W.heap.size W w)=>z5q p n c L r.sg w (hL.row.later hb) (by omega)
 obtain⟨M',z',hmz⟩:∃ M' z',appC (L.map (·.c)) at_ (r.x La Ta Ma)=(M',z'):=⟨_,_,rfl⟩
 have hap:appC (L.map (·.c)) at_ (r.x La Ta Ma)=(L.map (·.c),10):=q0q (L.map (·.c)) (r.x La Ta Ma) hg hk (map_get_none ht)
 rw [hg] at HGD
 rw [ht] at HGT
 obtain⟨t,htd⟩:∃ t,(none:Option Tv).getD tv0=t:=⟨_,rfl⟩
 rw [htd] at HGT
 have HTD:=hid htd
 rw [hmz] at hap ⊢
 have HAP:=hid hap
 dsimp only
 have e2:(r.k==2)=false:=by simp;omega
 have l2:decide (r.k<2)=false:=decide_eq_false (by omega)
 have l7:decide (7<r.k)=false:=decide_eq_false (by omega)
 have m2:¬ r.k<2:=by omega
 have m7:¬ 7<r.k:=by omega
 have HHK:=hid hk
 generalize z0v (r.x La Ta Ma)=gx at *
 clear hL hn hsm hP hok h1 hg hap hmz hW1 hY hb1 hrb hk ht htd
 go_enter Tryz.func10,Tryz.ntmps10
 go_upto_region 1 with (fail)
 rw [HW1.out,HYE.out]
 go_wp2_with ((with_reducible refine z0n HY1.out ?_ ?_);rfl)
 refine HGD.out.mono ?_
 rintro e2 w2 ⟨rfl,hb2⟩
 have HB2:=hid (HB1.out.trans (hb2.mono HB1.out.size))
 have HY2:=hid (HY1.out.later hb2)
 clear hb2 HB1 HY1 HGD HW1
 obtain⟨a0,a1,a2,a3,a4,a5,a6,a7,a8,a9⟩:=HY2.out.at
 go_wp2_with fail
 clear a0 a1 a2 a3 a4 a5 a6 a7 a8 a9
 refine (HGT.out _ HB2.out).mono ?_
 rintro e3 w3 ⟨rfl,hb3⟩
 have hbn:Below w3.heap.size w3 (w3.alloc (.cells #[.int .u32 t.c.id,.int .u32 t.c.sg,.int .u8 t.c.st,.bool t.c.cp,.bool t.c.dd,.slice t.p t.n t.m,.int .i64 t.c.fs,.int .i64 t.c.sz] 58)):=(Below.refl _ _).alloc (Nat.le_refl _) _
 have HB4:=hid (HB2.out.trans ((hb3.trans (hbn.mono hb3.size)).mono HB2.out.size))
 have HY4:=hid ((HY2.out.later hb3).later hbn)
 clear hb3 hbn HB2 HY2 HGT
 go_upto_region 4 with (fail)
 generalize w3.alloc (.cells #[.int .u32 t.c.id,.int .u32 t.c.sg,.int .u8 t.c.st,.bool t.c.cp,.bool t.c.dd,.slice t.p t.n t.m,.int .i64 t.c.fs,.int .i64 t.c.sz] 58)=w4 at *
 generalize w3.heap.size=X at *
 obtain⟨a0,a1,a2,a3,a4,a5,a6,a7,a8,a9⟩:=HY4.out.at
 go_wp2_with fail
 clear a0 a1 a2 a3 a4 a5 a6 a7 a8 a9
 go_ret2
 have he:=HAP.out
 cases he
 exact z0y HL.out HB4.out rfl
theorem rapply_any (p:Option Addr) (n c:Nat) (L:List Tv) (at_:Int) (r:Rv) (La:List Ln) (Ta:List Tk) (Ma:List Ln) (W:World) (hL:TL W p n c L) (hn:n≤1000) (hsm:∀ t∈L,Tcok t.c∧t.n≤1000∧0≤t.c.sz∧t.c.sz≤1099511627776) (hP:RvM W r La Ta Ma) (hok:Rxok (r.x La Ta Ma)) (h1:r.ln≤20∧r.tn≤30∧r.wn≤20) (ha:In64 at_) :
 Calls Tryz.prog 10 #[.slice p n c,.int .i64 at_,.agg (rcs r)] W (z4k W p L (appC (L.map (·.c)) at_ (r.x La Ta Ma)).1 (appC (L.map (·.c)) at_ (r.x La Ta Ma)).2):=by
 cases hg:z0v (r.x La Ta Ma) with
 | false=>exact rapply_bad p n c L at_ r La Ta Ma W hL hn hsm hP hok h1 hg
 | true =>
  by_cases h2:r.k<2
  · exact rapply_lo p n c L at_ r La Ta Ma W hL hn hsm hP hok h1 hg h2
  by_cases h7:7<r.k
  · exact rapply_hi p n c L at_ r La Ta Ma W hL hn hsm hP hok h1 hg h7
  by_cases hk:r.k=2
  · exact rapply_2 p n c L at_ r La Ta Ma W hL hn hsm hP hok h1 ha hg hk
  cases ht:getT Tv.id L r.tx with
  | none=>exact rapply_none p n c L at_ r La Ta Ma W hL hn hsm hP hok h1 hg ⟨by omega,by omega⟩ ht
  | some t =>
   have h:r.k=3∨r.k=4∨r.k=5∨r.k=6∨r.k=7:=by omega
   rcases h with h | h | h | h | h
   · exact rapply_3 p n c L at_ r La Ta Ma W hL hn hsm hP hok h1 hg h t ht
   · exact rapply_4 p n c L at_ r La Ta Ma W hL hn hsm hP hok h1 hg h t ht
   · exact rapply_5 p n c L at_ r La Ta Ma W hL hn hsm hP hok h1 hg h t ht
   · exact rapply_6 p n c L at_ r La Ta Ma W hL hn hsm hP hok h1 hg h t ht
   · exact rapply_7 p n c L at_ r La Ta Ma W hL hn hsm hP hok h1 hg h t ht
end Go.Proofs.YtnpjpelbcmgodaaGreatDoor
namespace Go.Proofs.YtnpjpelbcmgodaaGreatDoor
open Go.Lib (hid)
set_option maxHeartbeats 8000000
open Go.RowKit Go.ChangeShapes Go.WideShapes Go.Deep
set_option linter.unusedVariables false
set_option maxRecDepth 10000
set_option linter.unusedSimpArgs false
theorem recCells20:Tryz.prog.cellsOf 40=20:=by kernel_rfl
section
variable {H:Type} {enc:TypeId × Value→H} {w:World} {base:Nat} {held:Bool}
theorem rkey_trod {fuel:Nat} {x y z:Value} {d:DataW H × List MemPlace} (h:DataW.trod enc Tryz.prog w base (fun _=>true) held fuel 34 [x,y,z]=some d):∃ k:K,Kok k∧x=.int .u8 k.1∧y=.int .u8 k.2.1∧z=.int .u8 k.2.2:=by
 obtain⟨xs,n,_,_,hlen,hxl,hg⟩:=DataW.trod_struct Tryz.underlying34 h
 have h3:xs.length=3:=hxl
 have t0:=hg 0 _ rfl
 have t1:=hg 1 _ rfl
 have t2:=hg 2 _ rfl
 rw [List.getElem?_eq_getElem (by omega)] at t0 t1 t2
 have e0:DataW.trod enc Tryz.prog w base (fun _=>true) held n 5 [x]=some (xs[0]'(by omega)):=t0
 have e1:DataW.trod enc Tryz.prog w base (fun _=>true) held n 5 [y]=some (xs[1]'(by omega)):=t1
 have e2:DataW.trod enc Tryz.prog w base (fun _=>true) held n 5 [z]=some (xs[2]'(by omega)):=t2
 obtain⟨z0,hv0,_,wf0⟩:=DataW.trod_int Tryz.underlying5 e0
 obtain⟨z1,hv1,_,wf1⟩:=DataW.trod_int Tryz.underlying5 e1
 obtain⟨z2,hv2,_,wf2⟩:=DataW.trod_int Tryz.underlying5 e2
 simp at hv0 hv1 hv2
 exact⟨(z0,z1,z2),⟨bounds_u8 wf0,bounds_u8 wf1,bounds_u8 wf2⟩,hv0,hv1,hv2⟩
theorem prog_trod {fuel:Nat} {v0 v1 v2 v3 v4 v5 v6 v7 v8 v9:Value} {d:DataW H × List MemPlace} (hf:DataW.trod enc Tryz.prog w base (fun _=>true) held fuel 38 [v0,v1,v2,v3,v4,v5,v6,v7,v8,v9]=some d):∃ (k od po:Int) (lp:Option Addr) (ln lcp:Nat) (tp:Option Addr) (tn tcp:Nat) (wp:Option Addr) (wn wcp:Nat) (sk fr to q:Int) (L:List Ln) (T:List Tk) (M:List Ln),[v0,v1,v2,v3,v4,v5,v6,v7,v8,v9]=[.int .u8 k,.int .u32 od,.int .u8 po,.slice lp ln lcp,.slice tp tn tcp,.slice wp wn wcp,.int .u8 sk,.int .u8 fr,.int .u8 to,.int .i64 q]∧Pgok ⟨k,od,po,L,T,M,sk,fr,to,q⟩∧PgM w lp ln lcp L tp tn tcp T wp wn wcp M:=by
 obtain⟨xs,n,_,_,hlen,hxl,hg⟩:=DataW.trod_struct Tryz.underlying38 hf
 have h10:xs.length=10:=hxl
 have t0:=hg 0 _ rfl
 have t1:=hg 1 _ rfl
 have t2:=hg 2 _ rfl
 have t3:=hg 3 _ rfl
 have t4:=hg 4 _ rfl
 have t5:=hg 5 _ rfl
 have t6:=hg 6 _ rfl
 have t7:=hg 7 _ rfl
 have t8:=hg 8 _ rfl
 have t9:=hg 9 _ rfl
 rw [List.getElem?_eq_getElem (by omega)] at t0 t1 t2 t3 t4 t5 t6 t7 t8 t9
 have e0:DataW.trod enc Tryz.prog w base (fun _=>true) held n 5 [v0]=some (xs[0]'(by omega)):=t0
 have e1:DataW.trod enc Tryz.prog w base (fun _=>true) held n 32 [v1]=some (xs[1]'(by omega)):=t1
 have e2:DataW.trod enc Tryz.prog w base (fun _=>true) held n 5 [v2]=some (xs[2]'(by omega)):=t2
 have e3:DataW.trod enc Tryz.prog w base (fun _=>true) held n 35 [v3]=some (xs[3]'(by omega)):=t3
 have e4:DataW.trod enc Tryz.prog w base (fun _=>true) held n 36 [v4]=some (xs[4]'(by omega)):=t4
 have e5:DataW.trod enc Tryz.prog w base (fun _=>true) held n 35 [v5]=some (xs[5]'(by omega)):=t5
 have e6:DataW.trod enc Tryz.prog w base (fun _=>true) held n 5 [v6]=some (xs[6]'(by omega)):=t6
 have e7:DataW.trod enc Tryz.prog w base (fun _=>true) held n 5 [v7]=some (xs[7]'(by omega)):=t7
 have e8:DataW.trod enc Tryz.prog w base (fun _=>true) held n 5 [v8]=some (xs[8]'(by omega)):=t8
 have e9:DataW.trod enc Tryz.prog w base (fun _=>true) held n 2 [v9]=some (xs[9]'(by omega)):=t9
 obtain⟨z0,hv0,_,wf0⟩:=DataW.trod_int Tryz.underlying5 e0
 obtain⟨z1,hv1,_,wf1⟩:=DataW.trod_int Tryz.underlying32 e1
 obtain⟨z2,hv2,_,wf2⟩:=DataW.trod_int Tryz.underlying5 e2
 obtain⟨z6,hv6,_,wf6⟩:=DataW.trod_int Tryz.underlying5 e6
 obtain⟨z7,hv7,_,wf7⟩:=DataW.trod_int Tryz.underlying5 e7
 obtain⟨z8,hv8,_,wf8⟩:=DataW.trod_int Tryz.underlying5 e8
 obtain⟨z9,hv9,_,wf9⟩:=DataW.trod_int Tryz.underlying2 e9
 simp at hv0 hv1 hv2 hv6 hv7 hv8 hv9
 subst hv0 hv1 hv2 hv6 hv7 hv8 hv9
 obtain⟨p3,n3,c3,rfl⟩:=z5a Tryz.underlying35 e3
 obtain⟨p4,n4,c4,rfl⟩:=z5a Tryz.underlying36 e4
 obtain⟨p5,n5,c5,rfl⟩:=z5a Tryz.underlying35 e5
 obtain⟨L,hL,hLok⟩:=open_lines e3
 obtain⟨T,hT,hTok⟩:=open_takes e4
 obtain⟨M,hM,hMok⟩:=open_lines e5
 exact⟨z0,z1,z2,p3,n3,c3,p4,n4,c4,p5,n5,c5,z6,z7,z8,z9,L,T,M,rfl,⟨bounds_u8 wf0,z5w wf1,bounds_u8 wf2,hLok,hTok,hMok,bounds_u8 wf6,bounds_u8 wf7,bounds_u8 wf8,bounds_i64 wf9⟩,⟨hL,hT,hM⟩⟩
end
theorem rec_trod {H:Type} {enc:TypeId × Value→H} {w:World} {base:Nat} {held:Bool} {fuel:Nat} {cs:List Value} {d:DataW H × List MemPlace} (hf:DataW.trod enc Tryz.prog w base (fun _=>true) held fuel 40 cs=some d):∃ (r:Rv) (L:List Ln) (T:List Tk) (M:List Ln),cs=(rcs r).toList∧Rxok (r.x L T M)∧RvM w r L T M:=by
 obtain⟨xs,n,_,_,hlen,hxl,hg⟩:=DataW.trod_struct Tryz.underlying40 hf
 rw [recCells20] at hlen
 have h9:xs.length=9:=hxl
 obtain⟨v0,v1,v2,v3,v4,v5,v6,v7,v8,v9,v10,v11,v12,v13,v14,v15,v16,v17,v18,v19,rfl⟩:∃ v0 v1 v2 v3 v4 v5 v6 v7 v8 v9 v10 v11 v12 v13 v14 v15 v16 v17 v18 v19,cs=[v0,v1,v2,v3,v4,v5,v6,v7,v8,v9,v10,v11,v12,v13,v14,v15,v16,v17,v18,v19]:=by
  match cs,hlen with
  | [a0,a1,a2,a3,a4,a5,a6,a7,a8,a9,a10,a11,a12,a13,a14,a15,a16,a17,a18,a19],_=>exact⟨a0,a1,a2,a3,a4,a5,a6,a7,a8,a9,a10,a11,a12,a13,a14,a15,a16,a17,a18,a19,rfl⟩
 have t0:=hg 0 _ rfl
 have t1:=hg 1 _ rfl
 have t2:=hg 2 _ rfl
 have t3:=hg 3 _ rfl
 have t4:=hg 4 _ rfl
 have t5:=hg 5 _ rfl
 have t6:=hg 6 _ rfl
 have t7:=hg 7 _ rfl
 have t8:=hg 8 _ rfl
 rw [List.getElem?_eq_getElem (by omega)] at t0 t1 t2 t3 t4 t5 t6 t7 t8
 have e0:DataW.trod enc Tryz.prog w base (fun _=>true) held n 5 [v0]=some (xs[0]'(by omega)):=t0
 have e1:DataW.trod enc Tryz.prog w base (fun _=>true) held n 32 [v1]=some (xs[1]'(by omega)):=t1
 have e2:DataW.trod enc Tryz.prog w base (fun _=>true) held n 32 [v2]=some (xs[2]'(by omega)):=t2
 have e3:DataW.trod enc Tryz.prog w base (fun _=>true) held n 5 [v3]=some (xs[3]'(by omega)):=t3
 have e4:DataW.trod enc Tryz.prog w base (fun _=>true) held n 4 [v4]=some (xs[4]'(by omega)):=t4
 have e5:DataW.trod enc Tryz.prog w base (fun _=>true) held n 34 [v5,v6,v7]=some (xs[5]'(by omega)):=t5
 have e6:DataW.trod enc Tryz.prog w base (fun _=>true) held n 2 [v8]=some (xs[6]'(by omega)):=t6
 have e7:DataW.trod enc Tryz.prog w base (fun _=>true) held n 5 [v9]=some (xs[7]'(by omega)):=t7
 have e8:DataW.trod enc Tryz.prog w base (fun _=>true) held n 38 [v10,v11,v12,v13,v14,v15,v16,v17,v18,v19]=some (xs[8]'(by omega)):=t8
 obtain⟨z0,hv0,_,wf0⟩:=DataW.trod_int Tryz.underlying5 e0
 obtain⟨z1,hv1,_,wf1⟩:=DataW.trod_int Tryz.underlying32 e1
 obtain⟨z2,hv2,_,wf2⟩:=DataW.trod_int Tryz.underlying32 e2
 obtain⟨z3,hv3,_,wf3⟩:=DataW.trod_int Tryz.underlying5 e3
 obtain⟨z6,hv6,_,wf6⟩:=DataW.trod_int Tryz.underlying2 e6
 obtain⟨z7,hv7,_,wf7⟩:=DataW.trod_int Tryz.underlying5 e7
 obtain⟨z4,hv4,_⟩:=DataW.trod_bool Tryz.underlying4 e4
 obtain⟨key,hkey,hk0,hk1,hk2⟩:=rkey_trod e5
 obtain⟨k,od,po,lp,ln,lcp,tp,tn,tcp,wp,wn,wcp,sk,fr,to,q,L,T,M,hpe,hpok,hpm⟩:=prog_trod e8
 simp at hv0 hv1 hv2 hv3 hv4 hv6 hv7
 simp only [List.cons.injEq,and_true] at hpe
 obtain⟨g0,g1,g2,g3,g4,g5,g6,g7,g8,g9⟩:=hpe
 subst hv0 hv1 hv2 hv3 hv4 hv6 hv7 hk0 hk1 hk2 g0 g1 g2 g3 g4 g5 g6 g7 g8 g9
 exact⟨⟨z0,z1,z2,z3,z4,key.1,key.2.1,key.2.2,z6,z7,k,od,po,lp,ln,lcp,tp,tn,tcp,wp,wn,wcp,sk,fr,to,q⟩,L,T,M,rfl,⟨bounds_u8 wf0,z5w wf1,z5w wf2,bounds_u8 wf3,hkey,bounds_i64 wf6,bounds_u8 wf7,hpok⟩,hpm⟩
def rce (r:Rv):List Value:=(rcs r).toList
def RvIn (w:World) (r:Rv):Prop:=∃ L T M,Rxok (r.x L T M)∧RvM w r L T M
theorem RvIn.later {w w':World} {r:Rv} (h:RvIn w r) (hb:Below w.heap.size w w'):RvIn w' r:=by
 obtain⟨L,T,M,h1,h2⟩:=h
 exact⟨L,T,M,h1,h2.later hb⟩
structure RcL (w:World) (p:Option Addr) (n c:Nat) (H:List Rv):Prop where
 row:SlG rce 20 rz w p n c H
 each:∀ y∈H,RvIn w y
theorem RcL.later {w w':World} {p:Option Addr} {n c:Nat} {H:List Rv} (h:RcL w p n c H) (hb:Below w.heap.size w w'):RcL w' p n c H:=⟨h.row.later hb,fun y hy=>(h.each y hy).later hb⟩
theorem RcL.in {w:World} {p:Option Addr} {n c:Nat} {H:List Rv} (h:RcL w p n c H) {j:Nat} (hj:j<n):RvIn w (H.getD j rz):=by
 refine h.each _ ?_
 rw [List.getD,List.getElem?_eq_getElem (by rw [h.row.len];exact hj)]
 exact List.getElem_mem _
theorem RcL.at {w:World} {p:Option Addr} {n c:Nat} {H:List Rv} (h:RcL w p n c H) {j:Nat} (hj:j<n):∃ b off,p=some ⟨b,off,none⟩∧b<w.heap.size∧∀ i u,(rcs (H.getD j rz)).toList[i]?=some u→w.cell? ⟨b,off+j*20+i,none⟩=some u:=by
 obtain⟨b,off,rfl,hb,hc⟩:=h.row.cell (by omega)
 exact⟨b,off,rfl,hb,fun i u hu=>hc j hj i u hu⟩
def AnyR (_:Rv):Prop:=True
section
variable {H:Type} {enc:TypeId × Value→H} {w:World} {base:Nat} {held:Bool}
theorem open_recs {fuel:Nat} {a:Option Addr} {len cap:Nat} {x:DataW H × List MemPlace}
 (h:DataW.trod enc Tryz.prog w base (fun _=>true) held fuel 23 [.slice a len cap]=some x):∃ L,RcL w a len cap L∧∀ y∈L,AnyR y:=by
 rcases open_slice Tryz.underlying23 h with ⟨hcs,_⟩ | ⟨a',l,c,m,n,D,Pl,hcs,hb,hl,hm,hmm,hx,hi⟩
 · simp at hcs
   obtain⟨rfl,rfl,rfl⟩:=hcs
   exact⟨[],⟨SlG.empty w,fun y hy=>by cases hy⟩,fun y hy=>by cases hy⟩
 · simp at hcs
   obtain⟨rfl,rfl,rfl⟩:=hcs
   rw [if_pos rfl] at hmm
   subst hmm
   have hall:∀ i,i<len→∃ y:Rv,RvIn w y∧∀ j u,(rce y)[j]?=some u→w.cell? (a'.add (i*20+j))=some u:=by
    intro i hil
    obtain⟨cs',hc,ht⟩:=hi i (by omega)
    rw [recCells20] at hc
    obtain⟨r,L,T,M,hr,hok,hm2⟩:=rec_trod ht
    obtain⟨_,hcl,hat⟩:=World.cells?_some hc
    refine⟨r,⟨L,T,M,hok,hm2⟩,fun j u hu=>?_⟩
    have hj:j<20:=(List.getElem?_eq_some_iff.1 hu).1
    have:=hat j hj
    rw [← Go.Deep.add_add,this]
    rw [hr]
    exact hu
   obtain⟨f,hf⟩:∃ f:Nat→Rv,∀ i,i<len→RvIn w (f i)∧∀ j u,(rce (f i))[j]?=some u→w.cell? (a'.add (i*20+j))=some u :=
    ⟨fun i=>if h:i<len then Classical.choose (hall i h) else rz,fun i h=>by dsimp only;rw [dif_pos h];exact Classical.choose_spec (hall i h)⟩
   refine⟨(List.range len).map f,⟨⟨by simp,hl,hm,(fun h=>by cases h),fun h0=>?_⟩,fun y hy=>?_⟩,fun y hy=>trivial⟩
   · have h00:=(hf 0 h0).2 0 _ rfl
     have hsp:a'.spot=none:=World.cell?_spot (a:=a') (by simpa [Addr.add] using h00)
     obtain⟨b,off,sp⟩:=a'
     replace hsp:sp=none:=hsp
     subst hsp
     rw [Go.WideShapes.add_plain] at h00
     refine⟨b,off,rfl,World.block_lt_of_cell? _ _ h00,fun j hj i v hv=>?_⟩
     have e:((List.range len).map f).getD j rz=f j:=by
      rw [List.getD,List.getElem?_map,List.getElem?_range hj];rfl
     rw [e] at hv
     have:=(hf j hj).2 i v hv
     rwa [Go.WideShapes.add_plain,← Nat.add_assoc] at this
   · obtain⟨i,hi',rfl⟩:=List.mem_map.1 hy
     exact (hf i (List.mem_range.1 hi')).1
end
end Go.Proofs.YtnpjpelbcmgodaaGreatDoor
namespace Go.Proofs.YtnpjpelbcmgodaaGreatDoor
open Go.Lib (hid)
set_option maxHeartbeats 8000000
open Go.RowKit Go.ChangeShapes Go.WideShapes
set_option linter.unusedVariables false
set_option linter.unusedSimpArgs false
set_option maxRecDepth 10000
theorem isfew_p (k od po:Int) (lp:Option Addr) (ln lcp:Nat) (tp:Option Addr) (tn tcp:Nat) (wp:Option Addr) (wn wcp:Nat) (sk fr to q:Int) (W:World):Calls Tryz.prog 38 #[.agg #[.int .u8 k,.int .u32 od,.int .u8 po,.slice lp ln lcp,.slice tp tn tcp,.slice wp wn wcp,.int .u8 sk,.int .u8 fr,.int .u8 to,.int .i64 q]] W fun e w'=>e=.returned (.bool (decide (ln≤20∧tn≤30∧wn≤20)))∧Below W.heap.size W w':=by
 have HB:Hid (Below W.heap.size W (W.alloc (.cells #[.int .u8 k,.int .u32 od,.int .u8 po,.slice lp ln lcp,.slice tp tn tcp,.slice wp wn wcp,.int .u8 sk,.int .u8 fr,.int .u8 to,.int .i64 q] 38))):=hid ((Below.refl _ _).alloc (Nat.le_refl _) _)
 obtain⟨r,hr⟩:∃ r,decide (ln≤20∧tn≤30∧wn≤20)=r:=⟨_,rfl⟩
 have HR:=hid hr
 rw [hr]
 clear hr
 by_cases h1:ln≤20
 case neg =>
  have d1:decide ((ln:Int)≤20)=false:=decide_eq_false (by omega)
  obtain rfl:r=false:=by rw [← HR.out];exact decide_eq_false (by omega)
  go_enter Tryz.func38,Tryz.ntmps38
  go_wp2_with fail
  go_ret
  exact⟨rfl,HB.out⟩
 have d1:decide ((ln:Int)≤20)=true:=decide_eq_true (by omega)
 by_cases h2:tn≤30
 case neg =>
  have d2:decide ((tn:Int)≤30)=false:=decide_eq_false (by omega)
  obtain rfl:r=false:=by rw [← HR.out];exact decide_eq_false (by omega)
  go_enter Tryz.func38,Tryz.ntmps38
  go_wp2_with fail
  go_ret
  exact⟨rfl,HB.out⟩
 have d2:decide ((tn:Int)≤30)=true:=decide_eq_true (by omega)
 by_cases h3:wn≤20
 case neg =>
  have d3:decide ((wn:Int)≤20)=false:=decide_eq_false (by omega)
  obtain rfl:r=false:=by rw [← HR.out];exact decide_eq_false (by omega)
  go_enter Tryz.func38,Tryz.ntmps38
  go_wp2_with fail
  go_ret
  exact⟨rfl,HB.out⟩
 have d3:decide ((wn:Int)≤20)=true:=decide_eq_true (by omega)
 obtain rfl:r=true:=by rw [← HR.out];exact decide_eq_true (by omega)
 go_enter Tryz.func38,Tryz.ntmps38
 go_wp2_with fail
 go_ret
 exact⟨rfl,HB.out⟩
def fewI (ln tn wn:Nat):Int:=if ln≤20∧tn≤30∧wn≤20 then 1 else 0
theorem few_p (k od po:Int) (lp:Option Addr) (ln lcp:Nat) (tp:Option Addr) (tn tcp:Nat) (wp:Option Addr) (wn wcp:Nat) (sk fr to q:Int) (W:World):Calls Tryz.prog 13 #[.agg #[.int .u8 k,.int .u32 od,.int .u8 po,.slice lp ln lcp,.slice tp tn tcp,.slice wp wn wcp,.int .u8 sk,.int .u8 fr,.int .u8 to,.int .i64 q]] W fun e w'=>e=.returned (.int .i64 (fewI ln tn wn))∧Below W.heap.size W w':=by
 obtain⟨W1,hW1,hb1⟩:∃ W1,W.alloc (.cells #[.int .u8 k,.int .u32 od,.int .u8 po,.slice lp ln lcp,.slice tp tn tcp,.slice wp wn wcp,.int .u8 sk,.int .u8 fr,.int .u8 to,.int .i64 q] 38)=W1∧Below W.heap.size W W1:=⟨_,rfl,(Below.refl _ _).alloc (Nat.le_refl _) _⟩
 have HI:=hid (isfew_p k od po lp ln lcp tp tn tcp wp wn wcp sk fr to q W1)
 have HB1:=hid hb1
 have HW1:=hid hW1
 clear hW1 hb1
 by_cases h:ln≤20∧tn≤30∧wn≤20
 · have hi:=HI.out
   rw [decide_eq_true h] at hi
   have HF:Hid (fewI ln tn wn=1):=hid (if_pos h)
   clear h
   go_enter Tryz.func13,Tryz.ntmps13
   go_wp2_with fail
   rw [HW1.out]
   refine hi.mono ?_
   rintro e w2 ⟨rfl,h2⟩
   have HB2:=hid (HB1.out.trans (h2.mono HB1.out.size))
   clear hi h2
   go_wp2_with fail
   go_ret
   exact⟨by rw [HF.out];rfl,HB2.out⟩
 · have hi:=HI.out
   rw [decide_eq_false h] at hi
   have HF:Hid (fewI ln tn wn=0):=hid (if_neg h)
   clear h
   go_enter Tryz.func13,Tryz.ntmps13
   go_wp2_with fail
   rw [HW1.out]
   refine hi.mono ?_
   rintro e w2 ⟨rfl,h2⟩
   have HB2:=hid (HB1.out.trans (h2.mono HB1.out.size))
   clear hi h2
   go_wp2_with fail
   go_ret
   exact⟨by rw [HF.out];rfl,HB2.out⟩
def SmV (r:Rv):Prop:=r.ln≤20∧r.tn≤30∧r.wn≤20
section
theorem run_loadVar_atT {P:Program} (w:World) (g i:Nat) (ty:TypeId) (part:Array Value) (d:TypeDesc) (hp:∀ j u,part.toList[j]?=some u→w.cell? ⟨g,i+j,none⟩=some u)
 (hu:P.underlying ty=some d) (hd:(match d with | .struct _ | .array _ _=>true | _=>false)=true) (hi:(P.info? ty).map (·.size)=some part.size) :
 (loadVar ty ⟨g,i,none⟩).run P w=.ok (.agg part) w:=by
 have hl:(loadCells ⟨g,i,none⟩ part.toList.length).run P w=.ok part.toList.toArray w :=
  run_loadCells_list (P:=P) w ⟨g,i,none⟩ part.toList (fun j v hv=>by
   rw [z9b]
   exact hp j v hv)
 cases hq:P.info? ty with
 | none=>simp [hq] at hi
 | some inf =>
  have hs:inf.size=part.size:=by simpa [hq] using hi
  have hagg:(isAgg ty).run P w=.ok true w:=by
   unfold isAgg
   rw [Sem.run_bind,run_underlying hu w]
   cases d <;> simp_all
  simp only [Array.length_toList,Array.toArray_toList] at hl
  simp [loadVar,Sem.run_bind,hagg,sizeOf,typeInfo,hq,hs,hl]
section
variable {ops:Array Oper} {rest:List Oper} {a:Act} {w:World} {Q:Exit→Act→World→Prop} {dst:Option Tmp} {ty:TypeId} {pos:String} {after:Array Edge}
theorem wpList_load_ratT {x:Operand} {g i:Nat} {r:Rv} (hx:a.eval x=.pointer (some ⟨g,i,none⟩)) (hC:∀ j u,(rcs r).toList[j]?=some u→w.cell? ⟨g,i+j,none⟩=some u)
 (h:wpList Tryz.prog ops Q rest (a.put dst (.agg (rcs r))) w):wpList Tryz.prog ops Q (Oper.mk dst (.load 40 x) ty pos after none::rest) a w:=by
 refine wpList_plain rfl fun K hK=>?_
 unfold Oper.wp execOp
 simp only [hx,Instr.loadAt,Instr.sureAddr,Sem.run_bind,Sem.run_pure,Result.andThen_ok,run_loadVar_atT (P:=Tryz.prog) w g i 40 (rcs r) _ hC Tryz.underlying40 rfl (by kernel_rfl)]
 exact hK _ _ h
theorem wpList_load_patT {x:Operand} {g i:Nat} {r:Rv} (hx:a.eval x=.pointer (some ⟨g,i,none⟩)) (hC:∀ j u,(pcs r).toList[j]?=some u→w.cell? ⟨g,i+j,none⟩=some u)
 (h:wpList Tryz.prog ops Q rest (a.put dst (.agg (pcs r))) w):wpList Tryz.prog ops Q (Oper.mk dst (.load 38 x) ty pos after none::rest) a w:=by
 refine wpList_plain rfl fun K hK=>?_
 unfold Oper.wp execOp
 simp only [hx,Instr.loadAt,Instr.sureAddr,Sem.run_bind,Sem.run_pure,Result.andThen_ok,run_loadVar_atT (P:=Tryz.prog) w g i 38 (pcs r) _ hC Tryz.underlying38 rfl (by kernel_rfl)]
 exact hK _ _ h
end
end
def FewR (W:World) (n:Nat) (H:List Rv) (e:Ending) (w':World):Prop:=∃ t:Bool,e=.returned (.bool t)∧(t=true→n≤60∧∀ j,j<n→SmV (H.getD j rz))∧Below W.heap.size W w'
theorem jfew_any (p:Option Addr) (n c:Nat) (H:List Rv) (w:World) (h:RcL w p n c H):Calls Tryz.prog 6 #[.slice p n c] w (FewR w n H):=by
 have HA:=hid h
 have hcap:=h.row.cap
 clear h
 go_enter Tryz.func6,Tryz.ntmps6
 by_cases hn:60<n
 · have hn':(60:Int)<n:=by omega
   have HX:Hid (FewR w n H (.returned (.bool false)) w):=hid ⟨false,rfl,(fun h=>by cases h),Below.refl _ _⟩
   go_wp2_with fail
   go_ret
   exact HX.out
 · have hn':¬ (60:Int)<n:=by omega
   have HNK:Hid (n≤60):=hid (by omega)
   go_wp2_with fail
   go_loopw [3] (fun i wr=>∃ j:Nat,j≤n∧i=.int .i64 (j:Int)∧Hid ((∀ i,i<j→SmV (H.getD i rz))∧Below w.heap.size w wr)) (fun i _=>n-(Go.RowKit.intOf i).toNat)
   case atStart=>exact⟨0,Nat.zero_le _,rfl,hid ⟨(fun j hj=>by omega),Below.refl _ _⟩⟩
   case round =>
    obtain⟨j,hj,rfl,HR⟩:=hrel
    by_cases hlt:j<n
    · have hlt':(j:Int)<n:=by omega
      obtain⟨b,off,rfl,_,hpc⟩:=(HA.out.later HR.out.2).at hlt
      have hfw:=few_p (H.getD j rz).pk (H.getD j rz).od (H.getD j rz).po (H.getD j rz).lp (H.getD j rz).ln (H.getD j rz).lcp (H.getD j rz).tp (H.getD j rz).tn (H.getD j rz).tcp (H.getD j rz).wp (H.getD j rz).wn (H.getD j rz).wcp (H.getD j rz).sk (H.getD j rz).fr (H.getD j rz).to (H.getD j rz).q wr
      have HST:Hid (fewI (H.getD j rz).ln (H.getD j rz).tn (H.getD j rz).wn=1→∀ i,i<j+1→SmV (H.getD i rz)):=hid fun h i hi=>by
       rcases Nat.lt_or_ge i j with h' | h'
       · exact HR.out.1 i h'
       · obtain rfl:i=j:=by omega
         unfold fewI at h
         by_cases hs:(H.getD i rz).ln≤20∧(H.getD i rz).tn≤30∧(H.getD i rz).wn≤20
         · exact hs
         · rw [if_neg hs] at h
           cases h
      have HFI:Hid (fewI (H.getD j rz).ln (H.getD j rz).tn (H.getD j rz).wn=0∨fewI (H.getD j rz).ln (H.getD j rz).tn (H.getD j rz).wn=1):=hid (by
       unfold fewI
       split
       · exact .inr rfl
       · exact .inl rfl)
      have HPC:Hid (∀ k u,(pcs (H.getD j rz)).toList[k]?=some u→w.cell? ⟨b,off+j*20+10+k,none⟩=some u∧wr.cell? ⟨b,off+j*20+10+k,none⟩=some u):=hid fun k u hu=>by
       have hk:k<(pcs (H.getD j rz)).size:=by
        have:=(List.getElem?_eq_some_iff.1 hu).1
        simpa using this
       have h2:=hpc (10+k) u (by
        rw [Array.getElem?_toList,z7p _ k hk,← Array.getElem?_toList]
        exact hu)
       have e:off+j*20+(10+k)=off+j*20+10+k:=by omega
       rw [e] at h2
       exact⟨by
        have hlt2:=HA.out.at hlt
        obtain⟨b2,off2,hp2,_,hc2⟩:=hlt2
        cases hp2
        have h3:=hc2 (10+k) u (by
         rw [Array.getElem?_toList,z7p _ k hk,← Array.getElem?_toList]
         exact hu)
        rwa [e] at h3,h2⟩
      have HPW:=hid fun k u hu=>(HPC.out k u hu).2
      have HFW:=hid hfw
      clear hpc hfw HPC
      generalize H.getD j rz=y at *
      generalize fewI y.ln y.tn y.wn=fi at *
      rcases HFI.out with rfl | rfl
      · go_wp2_with ((with_reducible refine wpList_load_patT (r:=y) ?_ HPW.out ?_);rfl)
        refine HFW.out.mono ?_
        rintro e w2 ⟨rfl,hb2⟩
        have HX:Hid (FewR w n H (.returned (.bool false)) w2):=hid ⟨false,rfl,(fun h=>by cases h),HR.out.2.trans (hb2.mono HR.out.2.size)⟩
        clear hb2
        go_wp2_with fail
        go_ret
        exact HX.out
      · go_wp2_with ((with_reducible refine wpList_load_patT (r:=y) ?_ HPW.out ?_);rfl)
        refine HFW.out.mono ?_
        rintro e w2 ⟨rfl,hb2⟩
        have HB2:=hid (HR.out.2.trans (hb2.mono HR.out.2.size))
        clear hb2
        go_wp2_with fail
        go_roundw
        case rel=>exact⟨j+1,by omega,by go_num,hid ⟨HST.out (by trivial),HB2.out⟩⟩
        case measure =>
         simp [Go.RowKit.intOf]
         omega
    · obtain rfl:n=j:=by omega
      have HX:Hid (FewR w n H (.returned (.bool true)) wr):=hid ⟨true,rfl,fun _=>⟨HNK.out,HR.out.1⟩,HR.out.2⟩
      go_wp2_with fail
      go_ret
      exact HX.out
def FewT (n:Nat) (L:List Tv):Prop:=n≤12∧∀ j,j<n→(L.getD j tv0).n≤20∧0≤(L.getD j tv0).c.sz∧(L.getD j tv0).c.sz≤1048576
def z8n (W:World) (n:Nat) (L:List Tv) (e:Ending) (w':World):Prop:=∃ t:Bool,e=.returned (.bool t)∧(t=true→FewT n L)∧Below W.heap.size W w'
theorem jisfew_any (p:Option Addr) (n c:Nat) (L:List Tv) (w:World) (h:SlG tce 8 tv0 w p n c L):Calls Tryz.prog 17 #[.slice p n c] w (z8n w n L):=by
 have HA:=hid h
 have hcap:=h.cap
 clear h
 go_enter Tryz.func17,Tryz.ntmps17
 by_cases hn:12<n
 · have hn':(12:Int)<n:=by omega
   have HX:Hid (z8n w n L (.returned (.bool false)) w):=hid ⟨false,rfl,(fun h=>by cases h),Below.refl _ _⟩
   go_wp2_with fail
   go_ret
   exact HX.out
 · have hn':¬ (12:Int)<n:=by omega
   have HNK:Hid (n≤12):=hid (by omega)
   go_wp2_with fail
   go_loopw [3] (fun i wr=>∃ j:Nat,j≤n∧i=.int .i64 (j:Int)∧Hid ((∀ j',j'<j→(L.getD j' tv0).n≤20∧0≤(L.getD j' tv0).c.sz∧(L.getD j' tv0).c.sz≤1048576)∧Below w.heap.size w wr)) (fun i _=>n-(Go.RowKit.intOf i).toNat)
   case atStart=>exact⟨0,Nat.zero_le _,rfl,hid ⟨(fun j hj=>by omega),Below.refl _ _⟩⟩
   case round =>
    obtain⟨j,hj,rfl,HR⟩:=hrel
    by_cases hlt:j<n
    · have hlt':(j:Int)<n:=by omega
      obtain⟨b,off,rfl,_,c0,c1,c2,c3,c4,c5,c6,c7⟩:=z2i (HA.out.later HR.out.2) hlt
      have HST:Hid (((L.getD j tv0).n≤20∧0≤(L.getD j tv0).c.sz∧(L.getD j tv0).c.sz≤1048576)→∀ i,i<j+1→(L.getD i tv0).n≤20∧0≤(L.getD i tv0).c.sz∧(L.getD i tv0).c.sz≤1048576):=hid fun h i hi=>by
       rcases Nat.lt_or_ge i j with h' | h'
       · exact HR.out.1 i h'
       · obtain rfl:i=j:=by omega
         exact h
      clear c0 c1 c2 c3 c4 c6
      generalize L.getD j tv0=x at *
      by_cases h1:20<x.n
      · have g1:(20:Int)<x.n:=by omega
        have g2:decide ((20:Int)<(x.n:Int))=true:=decide_eq_true g1
        have HH:=hid h1
        clear h1
        have HX:Hid (z8n w n L (.returned (.bool false)) wr):=hid ⟨false,rfl,(fun h=>by cases h),HR.out.2⟩
        go_wp2_with fail
        go_ret
        exact HX.out
      · have g1:¬ (20:Int)<x.n:=by omega
        have g2:decide ((20:Int)<(x.n:Int))=false:=decide_eq_false g1
        by_cases h2:x.c.sz<0
        · have g3:decide (x.c.sz<0)=true:=decide_eq_true h2
          have HH:=hid h1
          clear h1
          have HX:Hid (z8n w n L (.returned (.bool false)) wr):=hid ⟨false,rfl,(fun h=>by cases h),HR.out.2⟩
          go_wp2_with fail
          go_ret
          exact HX.out
        · have g3:decide (x.c.sz<0)=false:=decide_eq_false h2
          by_cases h4:1048576<x.c.sz
          · have g5:decide (1048576<x.c.sz)=true:=decide_eq_true h4
            have HH:=hid h1
            clear h1
            have HX:Hid (z8n w n L (.returned (.bool false)) wr):=hid ⟨false,rfl,(fun h=>by cases h),HR.out.2⟩
            go_wp2_with fail
            go_ret
            exact HX.out
          · have g5:decide (1048576<x.c.sz)=false:=decide_eq_false h4
            have HX:=hid (HST.out ⟨by omega,by omega,by omega⟩)
            have HH:=hid h1
            clear h1
            go_wp2_with fail
            go_roundw
            case rel=>exact⟨j+1,by omega,by go_num,hid ⟨HX.out,HR.out.2⟩⟩
            case measure =>
             simp [Go.RowKit.intOf]
             omega
    · obtain rfl:n=j:=by omega
      have HX:Hid (z8n w n L (.returned (.bool true)) wr):=hid ⟨true,rfl,fun _=>⟨HNK.out,HR.out.1⟩,HR.out.2⟩
      go_wp2_with fail
      go_ret
      exact HX.out
theorem jFew_any (p:Option Addr) (n c:Nat) (L:List Tv) (w:World) (h:SlG tce 8 tv0 w p n c L):Calls Tryz.prog 5 #[.slice p n c] w fun e w'=>∃ t:Bool,e=.returned (.int .i64 (if t then 1 else 0))∧(t=true→FewT n L)∧Below w.heap.size w w':=by
 have HF:=hid (jisfew_any p n c L w h)
 clear h
 go_enter Tryz.func5,Tryz.ntmps5
 go_wp2_with fail
 refine HF.out.mono ?_
 rintro e1 w1 ⟨t,rfl,ht,hb⟩
 have HT:=hid (And.intro ht hb)
 clear ht hb HF
 cases t with
 | true =>
  go_wp2_with fail
  go_ret
  exact⟨true,rfl,fun _=>HT.out.1 (by trivial),HT.out.2⟩
 | false =>
  go_wp2_with fail
  go_ret
  exact⟨false,rfl,(fun h=>by cases h),HT.out.2⟩
abbrev JOk (M:List Tc):Prop:=TsOk M 200 1000000000000
def JActed (Ju:World→Nat→List Tc→(Nat→Prop)→Prop) (w w':World) (B:Nat) (M:List Tc) (Q:Nat→Prop):Prop:=∃ Q',Ju w' B M Q'∧(∀ j,Q' j→Q j∨w.heap.size≤j)∧Turn Q w w'
structure NewT (w w':World) (r:Option Addr) (L:List Tv):Prop where
 row:∀ a,r=some a→w.heap.size≤a.block
 each:∀ t∈L,0<t.n→∀ a,t.p=some a→w.heap.size≤a.block∧∀ b,r=some b→b.block≠a.block
 free:∀ t∈L,0<t.n→∀ a,t.p=some a→∃ cs T,w'.heap[a.block]?=some (.cells cs T (0,0))
 apart:∀ i j,i<L.length→j<L.length→i≠j→0<(L.getD i tv0).n→0<(L.getD j tv0).n→∀ a b,(L.getD i tv0).p=some a→(L.getD j tv0).p=some b→a.block≠b.block
structure JnI (NB:Nat) (Wd:World→Prop) (Ju:World→Nat→List Tc→(Nat→Prop)→Prop):Prop where
 wd:∀ {w w':World},Wd w→Below w.heap.size w w'→Wd w'
 keep:∀ {w w':World} {B:Nat} {M:List Tc} {Q S:Nat→Prop},Ju w B M Q→Turn S w w'→(∀ j,Q j→¬ S j)→Ju w' B M Q
 lt:∀ {w:World} {B:Nat} {M:List Tc} {Q:Nat→Prop},Ju w B M Q→∀ j,Q j→j<w.heap.size
 new:∀ (p:Option Addr) (n c:Nat) (L:List Tv) (w:World),TL w p n c L→n≤100→(∀ t∈L,t.n≤100)→(∀ t∈L,0≤t.c.id∧t.c.id≤4294967295)→Calls Tryz.prog 8 #[.slice p n c] w fun e w'=>∃ B Q,e=.returned (.pointer (some ⟨B,0,none⟩))∧Ju w' B (newT Tc.id (L.map (·.c))) Q∧(∀ j,Q j→w.heap.size≤j)∧Below w.heap.size w w'
 get:∀ (w:World) (B:Nat) (M:List Tc) (Q:Nat→Prop) (i:Int),Ju w B M Q→JOk M→0≤i∧i≤4294967295→Calls Tryz.prog 18 #[.pointer (some ⟨B,0,none⟩),.int .u32 i] w fun e w'=>∃ t:Tv,e=.returned (.tuple #[.agg #[.int .u32 t.c.id,.int .u32 t.c.sg,.int .u8 t.c.st,.bool t.c.cp,.bool t.c.dd,.slice t.p t.n t.m,.int .i64 t.c.fs,.int .i64 t.c.sz],.bool (getT Tc.id M i).isSome])∧t.c=(getT Tc.id M i).getD tc0∧TvM w' t∧Below w.heap.size w w'
 all:∀ (w:World) (B:Nat) (M:List Tc) (Q:Nat→Prop),Ju w B M Q→JOk M→M.length≤NB→Calls Tryz.prog 33 #[.pointer (some ⟨B,0,none⟩)] w fun e w'=>∃ r m d L,e=.returned (.slice r m d)∧TL w' r m d L∧L.map (·.c)=M∧NewT w w' r L∧Below w.heap.size w w'
 apply:∀ (w:World) (B:Nat) (M:List Tc) (Q:Nat→Prop) (at_:Int) (r:Rv) (La:List Ln) (Ta:List Tk) (Ma:List Ln),Wd w→Ju w B M Q→JOk M→In64 at_→RvM w r La Ta Ma→Rxok (r.x La Ta Ma)→SmV r→Calls Tryz.prog 11 #[.pointer (some ⟨B,0,none⟩),.int .i64 at_,.agg (rcs r)] w fun e w'=>e=.returned (.int .i64 (appC M at_ (r.x La Ta Ma)).2)∧JActed Ju w w' B (appC M at_ (r.x La Ta Ma)).1 Q
 last:∀ (w:World) (t:Tv),TvM w t→(∀ o∈t.c.dn,Ook o)→t.n≤100→Calls Tryz.prog 83 #[.agg #[.int .u32 t.c.id,.int .u32 t.c.sg,.int .u8 t.c.st,.bool t.c.cp,.bool t.c.dd,.slice t.p t.n t.m,.int .i64 t.c.fs,.int .i64 t.c.sz]] w fun e w'=>e=.returned (.tuple #[.agg #[.int .u8 (z1v t.c).1.1.1,.int .u8 (z1v t.c).1.1.2.1,.int .u8 (z1v t.c).1.1.2.2,.int .i64 (z1v t.c).1.2],.bool (z1v t.c).2])∧Below w.heap.size w w'
structure JnI2 (NB:Nat) (Ju:World→Nat→List Tc→(Nat→Prop)→Prop):Prop where
 of_:∀ (w:World) (B:Nat) (M:List Tc) (Q:Nat→Prop) (i:Int),Ju w B M Q→JOk M→0≤i∧i≤4294967295→Calls Tryz.prog 36 #[.pointer (some ⟨B,0,none⟩),.int .u32 i] w fun e w'=>∃ t:Tv,e=.returned (.tuple #[.agg #[.int .u32 t.c.id,.int .u32 t.c.sg,.int .u8 t.c.st,.bool t.c.cp,.bool t.c.dd,.slice t.p t.n t.m,.int .i64 t.c.fs,.int .i64 t.c.sz],.bool (getT Tc.sg M i).isSome])∧t.c=(getT Tc.sg M i).getD tc0∧TvM w' t∧Below w.heap.size w w'
structure JnI5 (NB:Nat) (Ju:World→Nat→List Tc→(Nat→Prop)→Prop):Prop where
 first:∀ (w:World) (B:Nat) (M:List Tc) (Q:Nat→Prop),Ju w B M Q→JOk M→Calls Tryz.prog 34 #[.pointer (some ⟨B,0,none⟩)] w fun e w'=>e=.returned (.tuple #[.int .i64 (z5f M).1,.bool (z5f M).2])∧Below w.heap.size w w'
variable {NB:Nat} {Wd:World→Prop} {Ju:World→Nat→List Tc→(Nat→Prop)→Prop}
theorem JnI.later (I:JnI NB Wd Ju) {w w':World} {B:Nat} {M:List Tc} {Q:Nat→Prop} (h:Ju w B M Q) (hb:Below w.heap.size w w'):Ju w' B M Q:=I.keep (S:=fun _=>False) h (Turn.of_below hb) (fun _ _ h=>h)
theorem JActed.ahead {w w1 w':World} {B:Nat} {M:List Tc} {Q:Nat→Prop} (hb:Below w.heap.size w w1) (h:JActed Ju w1 w' B M Q):JActed Ju w w' B M Q:=by
 obtain⟨Q',h1,h2,h3⟩:=h
 exact⟨Q',h1,fun j hj=>(h2 j hj).imp id (Nat.le_trans hb.size),(Turn.of_below (S:=Q) hb).trans h3 (fun _ _ h=>h)⟩
def fitB (c:Tc) (k:Int) (key:K) (d:Int):Bool:=if k=3 then !c.dd && decide ((c.dn.length:Int)<6) else if k=4∨k=5 then !c.dd else if k=6 then (z1v c).2 && decide ((z1v c).1=(key,d)) else if k=7 then decide ((c.dn.length:Int)=0) else false
theorem z4w (a b:Int) (h0:0≤a) (h1:0≤b) (h2:a+b≤9223372036854775807) (W:World):Calls Tryz.prog 84 #[.int .i64 a,.int .i64 b] W fun e w'=>e=.returned (.int .i64 (a+b))∧w'=W:=by
 have t1:¬ 9223372036854775807-b<a:=by omega
 go_enter Tryz.func84,Tryz.ntmps84
 go_wp2_with fail
 go_ret
 exact⟨rfl,rfl⟩
theorem jfits_any (t:Tv) (r:Rv) (W:World) (hM:TvM W t) (hx:∀ o∈t.c.dn,Ook o) (hn:t.n≤100) (hk:3≤r.k∧r.k≤7) :
 Calls Tryz.prog 57 #[.agg #[.int .u32 t.c.id,.int .u32 t.c.sg,.int .u8 t.c.st,.bool t.c.cp,.bool t.c.dd,.slice t.p t.n t.m,.int .i64 t.c.fs,.int .i64 t.c.sz],.agg (rcs r)] W fun e w'=>e=.returned (.bool (fitB t.c r.k (r.ka,r.kb,r.kc) r.d))∧Below W.heap.size W w':=by
 obtain⟨hb0,hx0,hy0⟩:=ttwo W #[.int .u32 t.c.id,.int .u32 t.c.sg,.int .u8 t.c.st,.bool t.c.cp,.bool t.c.dd,.slice t.p t.n t.m,.int .i64 t.c.fs,.int .i64 t.c.sz] (rcs r) 58 40
 have HB0:=hid hb0
 have HX:=hid hx0
 have HY:Hid (RB _ (W.heap.size+1) r):=hid hy0
 have HL:=hid fun w' (hb:Below W.heap.size W w')=>jlast_any t w' (hM.later hb) hx (by omega)
 have HLN:=hid hM.len
 have HN:=hid hn
 obtain⟨X,hX⟩:∃ X,W.heap.size=X:=⟨_,rfl⟩
 rw [hX] at HX HY
 have HXW:=hid hX
 clear hb0 hx0 hy0 hM hx hn
 go_enter Tryz.func57,Tryz.ntmps57
 go_upto_region 1 with (fail)
 clear hX
 generalize (W.alloc (.cells #[.int .u32 t.c.id,.int .u32 t.c.sg,.int .u8 t.c.st,.bool t.c.cp,.bool t.c.dd,.slice t.p t.n t.m,.int .i64 t.c.fs,.int .i64 t.c.sz] 58)).alloc (.cells (rcs r) 40)=V0 at *
 generalize X+1=Y at *
 obtain⟨x0,x1,x2,x3,x4,x5,x6,x7⟩:=z0g HX.out
 have hr0:=z0a (j:=0) HY.out (v:=.int .u8 r.k) rfl
 have y5:=z0a (j:=5) HY.out (v:=.int .u8 r.ka) rfl
 have y6:=z0a (j:=6) HY.out (v:=.int .u8 r.kb) rfl
 have y7:=z0a (j:=7) HY.out (v:=.int .u8 r.kc) rfl
 have y8:=z0a (j:=8) HY.out (v:=.int .i64 r.d) rfl
 have hkk:r.k=3∨r.k=4∨r.k=5∨r.k=6∨r.k=7:=by omega
 clear hk
 rcases hkk with hk | hk | hk | hk | hk
 · have HF:Hid (fitB t.c r.k (r.ka,r.kb,r.kc) r.d=(!t.c.dd && decide ((t.n:Int)<6))):=hid (by unfold fitB;rw [if_pos hk,HLN.out])
   rw [hk] at hr0
   clear hk
   obtain⟨q,hq⟩:∃ q,decide ((t.n:Int)<6)=q:=⟨_,rfl⟩
   rw [hq] at HF
   have HNN:=HN.out
   generalize t.c.dd=dd at *
   cases dd with
   | false =>
    go_wp2_with fail
    go_ret
    exact⟨by rw [HF.out];rfl,HB0.out⟩
   | true =>
    go_wp2_with fail
    go_ret
    exact⟨by rw [HF.out];rfl,HB0.out⟩
 · have HF:Hid (fitB t.c r.k (r.ka,r.kb,r.kc) r.d=!t.c.dd):=hid (by unfold fitB;rw [if_neg (by omega),if_pos (by omega)])
   rw [hk] at hr0
   clear hk
   go_wp2_with fail
   go_ret
   exact⟨by rw [HF.out];rfl,HB0.out⟩
 · have HF:Hid (fitB t.c r.k (r.ka,r.kb,r.kc) r.d=!t.c.dd):=hid (by unfold fitB;rw [if_neg (by omega),if_pos (by omega)])
   rw [hk] at hr0
   clear hk
   go_wp2_with fail
   go_ret
   exact⟨by rw [HF.out];rfl,HB0.out⟩
 · have HF:Hid (fitB t.c r.k (r.ka,r.kb,r.kc) r.d=((z1v t.c).2 && decide ((z1v t.c).1=((r.ka,r.kb,r.kc),r.d)))):=hid (by unfold fitB;rw [if_neg (by omega),if_neg (by omega),if_pos hk])
   rw [hk] at hr0
   clear hk
   obtain⟨⟨⟨⟨k1,k2,k3⟩,dl⟩,q⟩,hz⟩:∃ z,z1v t.c=z:=⟨_,rfl⟩
   rw [hz] at HF HL
   clear hz
   dsimp only at HF HL
   have hop:=fun w=>op_eql k1 k2 k3 dl r.ka r.kb r.kc r.d w
   go_wp2_with fail
   refine (HL.out _ HB0.out).mono ?_
   rintro e w2 ⟨rfl,hb2⟩
   have HB2:=hid (HB0.out.trans ((hb2.trans (((Below.refl w2.heap.size w2).alloc (Nat.le_refl _) (.cells #[.int .u8 k1,.int .u8 k2,.int .u8 k3,.int .i64 dl] 71)).mono hb2.size)).mono HB0.out.size))
   have HT:=hid (z0c w2 (.cells #[.int .u8 k1,.int .u8 k2,.int .u8 k3,.int .i64 dl] 71))
   have HY2:=hid ((HY.out.later hb2).later ((Below.refl w2.heap.size w2).alloc (Nat.le_refl _) (.cells #[.int .u8 k1,.int .u8 k2,.int .u8 k3,.int .i64 dl] 71)))
   clear hb2 HL x0 x1 x2 x3 x4 x5 x6 x7 hr0 y5 y6 y7 y8
   go_upto_region 9 with (fail)
   obtain⟨T,hT⟩:∃ T,w2.heap.size=T:=⟨_,rfl⟩
   rw [hT] at HT
   rw [hT]
   clear hT
   generalize w2.alloc (.cells #[.int .u8 k1,.int .u8 k2,.int .u8 k3,.int .i64 dl] 71)=W3 at *
   obtain⟨t0,t1,t2,t3⟩:=z5b HT.out
   have y5:=z0a (j:=5) HY2.out (v:=.int .u8 r.ka) rfl
   have y6:=z0a (j:=6) HY2.out (v:=.int .u8 r.kb) rfl
   have y7:=z0a (j:=7) HY2.out (v:=.int .u8 r.kc) rfl
   have y8:=z0a (j:=8) HY2.out (v:=.int .i64 r.d) rfl
   cases q with
   | false =>
    go_wp2_with fail
    go_ret
    exact⟨by rw [HF.out];rfl,HB2.out⟩
   | true =>
    obtain⟨z,hz⟩:∃ z,decide ((((k1,k2,k3),dl):O)=((r.ka,r.kb,r.kc),r.d))=z:=⟨_,rfl⟩
    rw [hz] at HF
    simp only [hz] at hop
    clear hz
    go_wp2_with fail
    go_ret
    exact⟨by rw [HF.out];rfl,HB2.out⟩
 · have HF:Hid (fitB t.c r.k (r.ka,r.kb,r.kc) r.d=decide ((t.n:Int)=0)):=hid (by unfold fitB;rw [if_neg (by omega),if_neg (by omega),if_neg (by omega),if_pos hk,HLN.out])
   rw [hk] at hr0
   clear hk
   have HQ:Hid (((t.n:Int)==0)=decide ((t.n:Int)=0)):=hid (by
    by_cases h:(t.n:Int)=0
    · rw [decide_eq_true h];simpa using h
    · rw [decide_eq_false h];simpa using h)
   obtain⟨q,hq⟩:∃ q,((t.n:Int)==0)=q:=⟨_,rfl⟩
   have HNN:=HN.out
   go_wp2_with fail
   go_ret
   exact⟨by rw [HF.out,← HQ.out,hq];rfl,HB0.out⟩
variable {NB:Nat} {Wd:World→Prop} {Ju:World→Nat→List Tc→(Nat→Prop)→Prop}
def Jn (Ju:World→Nat→List Tc→(Nat→Prop)→Prop) (W w:World) (B:Nat) (M:List Tc):Prop:=∃ Q,Ju w B M Q∧(∀ j,Q j→W.heap.size≤j)∧Below W.heap.size W w
theorem Jn.below {W w:World} {B:Nat} {M:List Tc} (h:Jn Ju W w B M):Below W.heap.size W w:=by
 obtain⟨_,_,_,h3⟩:=h
 exact h3
theorem Jn.acted {W w w':World} {B:Nat} {M:List Tc} {Q:Nat→Prop} (h2:∀ j,Q j→W.heap.size≤j) (h3:Below W.heap.size W w) (h:JActed Ju w w' B M Q):Jn Ju W w' B M:=by
 obtain⟨Q',g1,g2,g3⟩:=h
 refine⟨Q',g1,fun j hj=>?_,h3.trans (g3.below h3.size h2)⟩
 rcases g2 j hj with e | e
 · exact h2 j e
 · exact Nat.le_trans h3.size e
theorem Jn.apply (I:JnI NB Wd Ju) {W w:World} {B:Nat} {M:List Tc} (hW:Wd W) (h:Jn Ju W w B M) (hM:JOk M) (at_:Int) (ha:In64 at_) (r:Rv) (La:List Ln) (Ta:List Tk) (Ma:List Ln) (hr:RvM w r La Ta Ma) (hx:Rxok (r.x La Ta Ma)) (hs:SmV r) :
 Calls Tryz.prog 11 #[.pointer (some ⟨B,0,none⟩),.int .i64 at_,.agg (rcs r)] w fun e w'=>e=.returned (.int .i64 (appC M at_ (r.x La Ta Ma)).2)∧Jn Ju W w' B (appC M at_ (r.x La Ta Ma)).1:=by
 obtain⟨Q,h1,h2,h3⟩:=h
 refine (I.apply w B M Q at_ r La Ta Ma (I.wd hW h3) h1 hM ha hr hx hs).mono ?_
 rintro e w' ⟨rfl,ha⟩
 exact⟨rfl,Jn.acted h2 h3 ha⟩
theorem Jn.get (I:JnI NB Wd Ju) {W w:World} {B:Nat} {M:List Tc} (h:Jn Ju W w B M) (hM:JOk M) (i:Int) (hi:0≤i∧i≤4294967295) :
 Calls Tryz.prog 18 #[.pointer (some ⟨B,0,none⟩),.int .u32 i] w fun e w'=>∃ t:Tv,e=.returned (.tuple #[.agg #[.int .u32 t.c.id,.int .u32 t.c.sg,.int .u8 t.c.st,.bool t.c.cp,.bool t.c.dd,.slice t.p t.n t.m,.int .i64 t.c.fs,.int .i64 t.c.sz],.bool (getT Tc.id M i).isSome])∧t.c=(getT Tc.id M i).getD tc0∧TvM w' t∧Below w.heap.size w w'∧Jn Ju W w' B M:=by
 obtain⟨Q,h1,h2,h3⟩:=h
 refine (I.get w B M Q i h1 hM hi).mono ?_
 rintro e w' ⟨t,rfl,g1,g2,g3⟩
 exact⟨t,rfl,g1,g2,g3,Q,I.later h1 g3,h2,h3.trans (g3.mono h3.size)⟩
def rvl (k sg tx:Int) (key:K) (d:Int):Rv:=⟨k,sg,tx,0,false,key.1,key.2.1,key.2.2,d,0,0,0,0,none,0,0,none,0,0,none,0,0,0,0,0,0⟩
theorem q0e (k sg tx:Int) (key:K) (d:Int) (w:World):RvM w (rvl k sg tx key d) [] [] []:=⟨SlG.empty _,SlG.empty _,SlG.empty _⟩
theorem q0d (k sg tx:Int) (key:K) (d:Int):SmV (rvl k sg tx key d):=⟨by simp [rvl],by simp [rvl],by simp [rvl]⟩
theorem z5e {k sg tx:Int} {key:K} {d:Int} (h1:0≤k∧k≤255) (h2:0≤sg∧sg≤4294967295) (h3:0≤tx∧tx≤4294967295) (h4:Kok key) (h5:In64 d):Rxok ((rvl k sg tx key d).x [] [] []) :=
 ⟨h1,h2,h3,⟨Int.le_refl _,by show (0:Int)≤255;omega⟩,h4,h5,⟨Int.le_refl _,by show (0:Int)≤255;omega⟩,(by
  have z:(0:Int)≤0∧(0:Int)≤255:=⟨by omega,by omega⟩
  exact⟨z,⟨by show (0:Int)≤0;omega,by show (0:Int)≤4294967295;omega⟩,z,(fun x hx=>by cases hx),(fun x hx=>by cases hx),(fun x hx=>by cases hx),z,z,z,(by show -9223372036854775808≤(0:Int)∧(0:Int)≤9223372036854775807;omega)⟩)⟩
theorem jw_0:appC [] 40 ((rvl 2 1 3 (0,0,0) (0)).x [] [] [])=([⟨3,1,0,false,false,[],40,17⟩],0):=by decide
theorem jw_1:appC [⟨3,1,0,false,false,[],40,17⟩] 57 ((rvl 3 0 3 (3,0,0) (5)).x [] [] [])=([⟨3,1,0,false,false,[((3,0,0),5)],40,39⟩],0):=by decide
theorem jw_2:appC [⟨3,1,0,false,false,[((3,0,0),5)],40,39⟩] 79 ((rvl 3 0 3 (3,0,0) (-2)).x [] [] [])=([⟨3,1,0,false,false,[((3,0,0),5),((3,0,0),-2)],40,61⟩],0):=by decide
theorem jw_3:appC [⟨3,1,0,false,false,[((3,0,0),5),((3,0,0),-2)],40,61⟩] 101 ((rvl 7 0 3 (0,0,0) (0)).x [] [] [])=([⟨3,1,0,false,false,[((3,0,0),5),((3,0,0),-2)],40,61⟩],12):=by decide
theorem jw_4:appC [⟨3,1,0,false,false,[((3,0,0),5),((3,0,0),-2)],40,61⟩] 101 ((rvl 6 0 3 (3,0,0) (2)).x [] [] [])=([⟨3,1,0,false,true,[((3,0,0),5)],40,83⟩],0):=by decide
theorem jw_5:appC [⟨3,1,0,false,true,[((3,0,0),5)],40,83⟩] 123 ((rvl 3 0 3 (3,0,0) (1)).x [] [] [])=([⟨3,1,0,false,true,[((3,0,0),5)],40,83⟩],12):=by decide
theorem jok_nil:TsOk [] 0 0:=⟨(fun x hx=>by cases hx),List.Pairwise.nil,by simp,(fun x hx=>by cases hx),fun x hx=>by cases hx⟩
theorem jwok_0:TsOk [⟨3,1,0,false,false,[],40,17⟩] 1 10000:=by
 have h:=TsOk.app (X:=(rvl 2 1 3 (0,0,0) (0)).x [] [] []) (at_:=40) jok_nil ⟨by omega,by omega⟩ (z5e (by omega) (by omega) (by omega) ⟨by decide,by decide,by decide⟩ (by unfold In64;omega)) (by unfold In64;omega)
 rw [jw_0] at h
 exact h.mono (by omega) (by omega)
theorem jwok_1:TsOk [⟨3,1,0,false,false,[((3,0,0),5)],40,39⟩] 2 20000:=by
 have h:=TsOk.app (X:=(rvl 3 0 3 (3,0,0) (5)).x [] [] []) (at_:=57) jwok_0 ⟨by omega,by omega⟩ (z5e (by omega) (by omega) (by omega) ⟨by decide,by decide,by decide⟩ (by unfold In64;omega)) (by unfold In64;omega)
 rw [jw_1] at h
 exact h.mono (by omega) (by omega)
theorem jwok_2:TsOk [⟨3,1,0,false,false,[((3,0,0),5),((3,0,0),-2)],40,61⟩] 3 30000:=by
 have h:=TsOk.app (X:=(rvl 3 0 3 (3,0,0) (-2)).x [] [] []) (at_:=79) jwok_1 ⟨by omega,by omega⟩ (z5e (by omega) (by omega) (by omega) ⟨by decide,by decide,by decide⟩ (by unfold In64;omega)) (by unfold In64;omega)
 rw [jw_2] at h
 exact h.mono (by omega) (by omega)
theorem jwok_3:TsOk [⟨3,1,0,false,false,[((3,0,0),5),((3,0,0),-2)],40,61⟩] 4 40000:=by
 have h:=TsOk.app (X:=(rvl 7 0 3 (0,0,0) (0)).x [] [] []) (at_:=101) jwok_2 ⟨by omega,by omega⟩ (z5e (by omega) (by omega) (by omega) ⟨by decide,by decide,by decide⟩ (by unfold In64;omega)) (by unfold In64;omega)
 rw [jw_3] at h
 exact h.mono (by omega) (by omega)
theorem jwok_4:TsOk [⟨3,1,0,false,true,[((3,0,0),5)],40,83⟩] 5 50000:=by
 have h:=TsOk.app (X:=(rvl 6 0 3 (3,0,0) (2)).x [] [] []) (at_:=101) jwok_3 ⟨by omega,by omega⟩ (z5e (by omega) (by omega) (by omega) ⟨by decide,by decide,by decide⟩ (by unfold In64;omega)) (by unfold In64;omega)
 rw [jw_4] at h
 exact h.mono (by omega) (by omega)
theorem jwok_5:TsOk [⟨3,1,0,false,true,[((3,0,0),5)],40,83⟩] 6 60000:=by
 have h:=TsOk.app (X:=(rvl 3 0 3 (3,0,0) (1)).x [] [] []) (at_:=123) jwok_4 ⟨by omega,by omega⟩ (z5e (by omega) (by omega) (by omega) ⟨by decide,by decide,by decide⟩ (by unfold In64;omega)) (by unfold In64;omega)
 rw [jw_5] at h
 exact h.mono (by omega) (by omega)
variable {NB:Nat} {Wd:World→Prop} {Ju:World→Nat→List Tc→(Nat→Prop)→Prop}
theorem jworks_any (I:JnI NB Wd Ju) (W:World) (hW:Wd W):Calls Tryz.prog 7 #[] W fun e w'=>e=.returned (.bool true)∧Below W.heap.size W w':=by
 have HI:=hid I
 have hb0:Below W.heap.size W (W.alloc (.cells #[.int .u8 3,.int .u8 0,.int .u8 0] 34)):=(Below.refl _ _).alloc (Nat.le_refl _) _
 have HB0:=hid hb0
 have HW:=hid (I.wd hW hb0)
 have HK0:=hid (z0c W (.cells #[.int .u8 3,.int .u8 0,.int .u8 0] 34))
 have HNEW:=hid fun w=>I.new none 0 0 [] w (TL.empty w) (by omega) (fun t ht=>by cases ht) (fun t ht=>by cases ht)
 obtain⟨X,hX⟩:∃ X,W.heap.size=X:=⟨_,rfl⟩
 have HHX:=hid hX
 rw [hX] at HK0
 clear hb0 I hW
 go_enter Tryz.func7,Tryz.ntmps7
 go_upto_region 2 with (fail)
 clear hX
 generalize W.alloc (.cells #[.int .u8 3,.int .u8 0,.int .u8 0] 34)=V0 at *
 go_wp2_with fail
 refine (HNEW.out _).mono ?_
 rintro e0 w0 ⟨B,Q,rfl,hj,hq,hb⟩
 have HJ0:Hid (Jn Ju V0 w0 B []):=hid ⟨Q,hj,hq,hb⟩
 clear hj hq hb HNEW
 obtain⟨x0,x1,x2⟩:w0.cell? ⟨X,0,none⟩=some (.int .u8 3)∧w0.cell? ⟨X,1,none⟩=some (.int .u8 0)∧w0.cell? ⟨X,2,none⟩=some (.int .u8 0):=⟨z0a (z0b HK0.out HJ0.out.below) rfl,z0a (z0b HK0.out HJ0.out.below) rfl,z0a (z0b HK0.out HJ0.out.below) rfl⟩
 have HC0:=hid (Jn.apply HI.out HW.out HJ0.out (jok_nil.mono (by omega) (by omega)) 40 (by unfold In64;omega) (rvl 2 1 3 (0,0,0) (0)) [] [] [] (q0e ..) (z5e (by omega) (by omega) (by omega) ⟨by decide,by decide,by decide⟩ (by unfold In64;omega)) (q0d ..))
 rw [jw_0] at HC0
 go_wp2_with fail
 clear x0 x1 x2
 refine HC0.out.mono ?_
 rintro e1 w1 ⟨rfl,hj⟩
 have HJ1:=hid hj
 clear hj HC0
 obtain⟨x0,x1,x2⟩:w1.cell? ⟨X,0,none⟩=some (.int .u8 3)∧w1.cell? ⟨X,1,none⟩=some (.int .u8 0)∧w1.cell? ⟨X,2,none⟩=some (.int .u8 0):=⟨z0a (z0b HK0.out HJ1.out.below) rfl,z0a (z0b HK0.out HJ1.out.below) rfl,z0a (z0b HK0.out HJ1.out.below) rfl⟩
 have HC1:=hid (Jn.apply HI.out HW.out HJ1.out (jwok_0.mono (by omega) (by omega)) 57 (by unfold In64;omega) (rvl 3 0 3 (3,0,0) (5)) [] [] [] (q0e ..) (z5e (by omega) (by omega) (by omega) ⟨by decide,by decide,by decide⟩ (by unfold In64;omega)) (q0d ..))
 rw [jw_1] at HC1
 go_wp2_with fail
 clear x0 x1 x2
 refine HC1.out.mono ?_
 rintro e2 w2 ⟨rfl,hj⟩
 have HJ2:=hid hj
 clear hj HC1
 obtain⟨x0,x1,x2⟩:w2.cell? ⟨X,0,none⟩=some (.int .u8 3)∧w2.cell? ⟨X,1,none⟩=some (.int .u8 0)∧w2.cell? ⟨X,2,none⟩=some (.int .u8 0):=⟨z0a (z0b HK0.out HJ2.out.below) rfl,z0a (z0b HK0.out HJ2.out.below) rfl,z0a (z0b HK0.out HJ2.out.below) rfl⟩
 have HC2:=hid (Jn.apply HI.out HW.out HJ2.out (jwok_1.mono (by omega) (by omega)) 79 (by unfold In64;omega) (rvl 3 0 3 (3,0,0) (-2)) [] [] [] (q0e ..) (z5e (by omega) (by omega) (by omega) ⟨by decide,by decide,by decide⟩ (by unfold In64;omega)) (q0d ..))
 rw [jw_2] at HC2
 go_wp2_with fail
 clear x0 x1 x2
 refine HC2.out.mono ?_
 rintro e3 w3 ⟨rfl,hj⟩
 have HJ3:=hid hj
 clear hj HC2
 obtain⟨x0,x1,x2⟩:w3.cell? ⟨X,0,none⟩=some (.int .u8 3)∧w3.cell? ⟨X,1,none⟩=some (.int .u8 0)∧w3.cell? ⟨X,2,none⟩=some (.int .u8 0):=⟨z0a (z0b HK0.out HJ3.out.below) rfl,z0a (z0b HK0.out HJ3.out.below) rfl,z0a (z0b HK0.out HJ3.out.below) rfl⟩
 have HC3:=hid (Jn.apply HI.out HW.out HJ3.out (jwok_2.mono (by omega) (by omega)) 101 (by unfold In64;omega) (rvl 7 0 3 (0,0,0) (0)) [] [] [] (q0e ..) (z5e (by omega) (by omega) (by omega) ⟨by decide,by decide,by decide⟩ (by unfold In64;omega)) (q0d ..))
 rw [jw_3] at HC3
 go_wp2_with fail
 clear x0 x1 x2
 refine HC3.out.mono ?_
 rintro e4 w4 ⟨rfl,hj⟩
 have HJ4:=hid hj
 clear hj HC3
 obtain⟨x0,x1,x2⟩:w4.cell? ⟨X,0,none⟩=some (.int .u8 3)∧w4.cell? ⟨X,1,none⟩=some (.int .u8 0)∧w4.cell? ⟨X,2,none⟩=some (.int .u8 0):=⟨z0a (z0b HK0.out HJ4.out.below) rfl,z0a (z0b HK0.out HJ4.out.below) rfl,z0a (z0b HK0.out HJ4.out.below) rfl⟩
 have HC4:=hid (Jn.apply HI.out HW.out HJ4.out (jwok_3.mono (by omega) (by omega)) 101 (by unfold In64;omega) (rvl 6 0 3 (3,0,0) (2)) [] [] [] (q0e ..) (z5e (by omega) (by omega) (by omega) ⟨by decide,by decide,by decide⟩ (by unfold In64;omega)) (q0d ..))
 rw [jw_4] at HC4
 go_wp2_with fail
 clear x0 x1 x2
 refine HC4.out.mono ?_
 rintro e5 w5 ⟨rfl,hj⟩
 have HJ5:=hid hj
 clear hj HC4
 obtain⟨x0,x1,x2⟩:w5.cell? ⟨X,0,none⟩=some (.int .u8 3)∧w5.cell? ⟨X,1,none⟩=some (.int .u8 0)∧w5.cell? ⟨X,2,none⟩=some (.int .u8 0):=⟨z0a (z0b HK0.out HJ5.out.below) rfl,z0a (z0b HK0.out HJ5.out.below) rfl,z0a (z0b HK0.out HJ5.out.below) rfl⟩
 have HC5:=hid (Jn.apply HI.out HW.out HJ5.out (jwok_4.mono (by omega) (by omega)) 123 (by unfold In64;omega) (rvl 3 0 3 (3,0,0) (1)) [] [] [] (q0e ..) (z5e (by omega) (by omega) (by omega) ⟨by decide,by decide,by decide⟩ (by unfold In64;omega)) (q0d ..))
 rw [jw_5] at HC5
 go_wp2_with fail
 clear x0 x1 x2
 refine HC5.out.mono ?_
 rintro e6 w6 ⟨rfl,hj⟩
 have HJ6:=hid hj
 clear hj HC5
 go_wp2_with fail
 refine (Jn.get HI.out HJ6.out (jwok_5.mono (by omega) (by omega)) 3 (by omega)).mono ?_
 rintro e7 w7 ⟨t,rfl,htc,htm,hb,hj⟩
 have ht2:t.c=⟨3,1,0,false,true,[((3,0,0),5)],40,83⟩:=htc
 have htn:t.n=1:=by rw [← htm.len,ht2];rfl
 obtain⟨c,p,n,m⟩:=t
 simp only at ht2 htn
 subst ht2 htn
 have HB7:=hid (HB0.out.trans (hj.below.mono HB0.out.size))
 have HTB:=hid (z0c w7 (.cells #[.int .u32 3,.int .u32 1,.int .u8 0,.bool false,.bool true,.slice p 1 m,.int .i64 40,.int .i64 83] 58))
 have HB8:=hid (HB7.out.alloc HB7.out.size (.cells #[.int .u32 3,.int .u32 1,.int .u8 0,.bool false,.bool true,.slice p 1 m,.int .i64 40,.int .i64 83] 58))
 clear htc htm hb hj
 go_upto_region 10 with (fail)
 generalize w7.alloc (.cells #[.int .u32 3,.int .u32 1,.int .u8 0,.bool false,.bool true,.slice p 1 m,.int .i64 40,.int .i64 83] 58)=w8 at *
 generalize w7.heap.size=TB at *
 obtain⟨y0,y1,y2,y3,y4,y5,y6,y7⟩:=z0g HTB.out
 go_wp2_with fail
 go_ret
 exact⟨rfl,HB8.out⟩
theorem z2q {W w:World} {a:Addr} {v:Value} (hb:Below W.heap.size W w) (h:W.cell? a=some v):w.cell? a=some v:=(hb.cell (World.block_lt_of_cell? _ _ h)).trans h
theorem map_at {L:List Tv} {j:Nat} (hj:j<L.length):(L.map (·.c)).getD j tc0=(L.getD j tv0).c:=by
 simp [List.getD,List.getElem?_map,List.getElem?_eq_getElem hj]
theorem OL.later' {w w':World} {p:Option Addr} {n c:Nat} {L:List O} (h:OL w p n c L) (hb:Below w.heap.size w w'):OL w' p n c L:=h.later hb
variable {NB:Nat} {Wd:World→Prop} {Ju:World→Nat→List Tc→(Nat→Prop)→Prop}
theorem jsame_any (I:JnI NB Wd Ju) (I2:JnI2 NB Ju) (I5:JnI5 NB Ju) (w:World) (B:Nat) (M:List Tc) (Q:Nat→Prop) (p:Option Addr) (n c:Nat) (L:List Tv) (h:Ju w B M Q) (hM:JOk M) (hNB:M.length≤NB) (hL:TL w p n c L) (hm:L.map (·.c)=M) (hfew:∀ t∈L,t.n≤100) :
 Calls Tryz.prog 12 #[.pointer (some ⟨B,0,none⟩),.slice p n c] w fun e w'=>e=.returned (.bool true)∧Below w.heap.size w w':=by
 have HI:=hid I
 have HJ:=hid fun w' (hb:Below w.heap.size w w')=>I.later h hb
 have HL:=hid fun w' (hb:Below w.heap.size w w')=>hL.later hb
 have hln:L.length=n:=hL.row.len
 have hMn:M.length=n:=by rw [← hm,List.length_map,hln]
 have HN:=hid (show n≤200 by rw [← hMn];exact hM.len)
 have HFIRST:=hid fun w' (hb:Below w.heap.size w w')=>I5.first w' B M Q (I.later h hb) hM
 have HRF:=hid fun w' (hb:Below w.heap.size w w')=>rtfirst_any p n c L w' (hL.row.later hb) (by have:=HN.out;omega)
 rw [hm] at HRF
 have HAT:=hid fun j (hj:j<n)=>(show (L.getD j tv0).c∈M∧(L.getD j tv0).n≤100∧M.getD j tc0=(L.getD j tv0).c by
  have hx:=hL.mem hj
  refine⟨?_,hfew _ hx,?_⟩
  · rw [← hm];exact List.mem_map_of_mem hx
  · rw [← hm];exact map_at (by rw [hln];exact hj))
 have HGET:=hid fun (x:Tc) (hx:x∈M) w' (hb:Below w.heap.size w w')=>(show Calls Tryz.prog 18 #[.pointer (some ⟨B,0,none⟩),.int .u32 x.id] w' fun e w''=>∃ t:Tv,e=.returned (.tuple #[.agg #[.int .u32 t.c.id,.int .u32 t.c.sg,.int .u8 t.c.st,.bool t.c.cp,.bool t.c.dd,.slice t.p t.n t.m,.int .i64 t.c.fs,.int .i64 t.c.sz],.bool true])∧t.c=x∧TvM w'' t∧Below w'.heap.size w' w'' by
  have h1:=I.get w' B M Q x.id (I.later h hb) hM (hM.ok x hx).id
  rw [z6g hM.up hx] at h1
  exact h1)
 have HSOME:=hid fun (x:Tc) (hx:x∈M)=>(show ∃ y v,getT Tc.sg M x.sg=some y∧y∈M∧getT Tv.sg L x.sg=some v∧v.c=y∧v∈L by
  have hs:(getT Tv.sg L x.sg).isSome=true:=by
   obtain⟨t,ht,e⟩:=List.mem_map.1 (show x∈L.map (·.c) by rw [hm];exact hx)
   unfold getT
   rw [List.find?_isSome]
   exact⟨t,ht,by simp [Tv.sg,← e]⟩
  obtain⟨v,hv⟩:=Option.isSome_iff_exists.1 hs
  obtain⟨hvm,_⟩:=z2y hv
  have h2:=z3f (ix:=Tv.sg) (jx:=Tc.sg) (f:=(·.c)) (fun _=>rfl) x.sg L
  rw [hv,hm] at h2
  exact⟨v.c,v,h2.symm,by rw [← hm];exact List.mem_map_of_mem hvm,hv,rfl,hvm⟩)
 have HOF:=hid fun (x y:Tc) (hx:x∈M) (hy:getT Tc.sg M x.sg=some y) w' (hb:Below w.heap.size w w')=>(show Calls Tryz.prog 36 #[.pointer (some ⟨B,0,none⟩),.int .u32 x.sg] w' fun e w''=>∃ t:Tv,e=.returned (.tuple #[.agg #[.int .u32 t.c.id,.int .u32 t.c.sg,.int .u8 t.c.st,.bool t.c.cp,.bool t.c.dd,.slice t.p t.n t.m,.int .i64 t.c.fs,.int .i64 t.c.sz],.bool true])∧t.c=y∧TvM w'' t∧Below w'.heap.size w' w'' by
  have h1:=I2.of_ w' B M Q x.sg (I.later h hb) hM (hM.ok x hx).sg
  rw [hy] at h1
  exact h1)
 have HRO:=hid fun (v:Tv) (i:Int) (hv:getT Tv.sg L i=some v) w' (hb:Below w.heap.size w w')=>(show Calls Tryz.prog 24 #[.slice p n c,.int .u32 i] w' fun e w''=>e=.returned (.tuple #[.agg #[.int .u32 v.c.id,.int .u32 v.c.sg,.int .u8 v.c.st,.bool v.c.cp,.bool v.c.dd,.slice v.p v.n v.m,.int .i64 v.c.fs,.int .i64 v.c.sz],.bool true])∧Below w'.heap.size w' w'' by
  have h1:=z5q p n c L i w' (hL.row.later hb) (by have:=HN.out;omega)
  rw [hv] at h1
  exact h1)
 have HEACH:=hid fun (v:Tv) (hv:v∈L) w' (hb:Below w.heap.size w w')=>(And.intro ((hL.each v hv).later hb) (hfew v hv))
 have HMF:=hid fun (x:Tc) (hx:x∈M)=>hM.few x hx
 have hcap:=hL.row.cap
 have hal:=I.all w B M Q h hM hNB
 have HAL:=hid (show Calls Tryz.prog 33 #[.pointer (some ⟨B,0,none⟩)] w fun e w'=>∃ r d LA,e=.returned (.slice r n d)∧TL w' r n d LA∧LA.map (·.c)=M∧Below w.heap.size w w' from hal.mono (by
  rintro e w' ⟨r,m,d,LA,rfl,h1,h2,_,h3⟩
  have hmn:m=n:=by rw [← h1.row.len,← hMn,← h2,List.length_map]
  subst hmn
  exact⟨r,d,LA,rfl,h1,h2,h3⟩))
 obtain⟨⟨z,zb⟩,hz⟩:∃ z,z5f M=z:=⟨_,rfl⟩
 rw [hz] at HFIRST HRF
 dsimp only at HFIRST HRF
 have q0:((n:Int) != (n:Int))=false:=by simp
 have q1:(z != z)=false:=by simp
 have q2:(zb != zb)=false:=by simp
 clear h hM hL hm hfew hln hMn hal hz I I2 I5
 go_enter Tryz.func12,Tryz.ntmps12
 go_wp2_with fail
 refine HAL.out.mono ?_
 rintro e1 w1 ⟨r,d,LA,rfl,hta,hma,hb1⟩
 have HTA:=hid hta
 have HMA:=hid hma
 have HB1:=hid hb1
 have hrc:=hta.row.cap
 clear hta hma hb1 HAL
 go_wp2_with fail
 refine (HFIRST.out _ HB1.out).mono ?_
 rintro e2 w2 ⟨rfl,hb2⟩
 have HTA2:=hid (HTA.out.later hb2)
 have HB2:=hid (HB1.out.trans (hb2.mono HB1.out.size))
 clear hb2 HTA HB1 HFIRST
 go_wp2_with fail
 refine (HRF.out _ HB2.out).mono ?_
 rintro e3 w3 ⟨rfl,hb3⟩
 have HTA3:=hid (HTA2.out.later hb3)
 have HB3:=hid (HB2.out.trans (hb3.mono HB2.out.size))
 clear hb3 HTA2 HB2 HRF
 go_wp2_with fail
 go_loopw [10] (fun i wr=>∃ j:Nat,j≤n∧i=.int .i64 (j:Int)∧Hid (Below w3.heap.size w3 wr)) (fun i _=>n-(Go.RowKit.intOf i).toNat)
 case atStart=>exact⟨0,Nat.zero_le _,rfl,hid (Below.refl _ _)⟩
 case round =>
  obtain⟨j,hj,rfl,HB⟩:=hrel
  have HBW:=hid (HB3.out.trans (HB.out.mono HB3.out.size))
  by_cases hlt:j<n
  · have t1:(j:Int)<n:=by omega
    have hmx:(n:Int)≤200:=by have:=HN.out;omega
    have HLW:=hid (HL.out _ HBW.out)
    obtain⟨b,off,rfl,_,c0,c1,c2,c3,c4,c5,c6,c7⟩:=z2i HLW.out.row hlt
    have HTAW:=hid (HTA3.out.later HB.out)
    obtain⟨ab,aoff,rfl,_,d0,d1,d2,d3,d4,d5,d6,d7⟩:=z2i HTAW.out.row hlt
    obtain⟨hxM,hxn,hxe⟩:=HAT.out j hlt
    have HXM:Hid (TvM wr (L.getD j tv0)):=hid (HLW.out.at hlt)
    have HYM:Hid (TvM wr (LA.getD j tv0)):=hid (HTAW.out.at hlt)
    have HYX:Hid ((LA.getD j tv0).c=(L.getD j tv0).c):=hid (by
     rw [← hxe,← HMA.out]
     exact (map_at (by rw [HTAW.out.row.len];exact hlt)).symm)
    generalize L.getD j tv0=x at *
    generalize LA.getD j tv0=y at *
    have HXX:=hid (And.intro hxM (And.intro hxn hxe))
    have HYN:Hid (y.n≤100):=hid (by
     have h1:=HMF.out x.c hxM
     have h2:=HYM.out.len
     rw [HYX.out] at h2
     omega)
    obtain⟨s,v,hs,hsM,hv,hvc,hvL⟩:=HSOME.out x.c hxM
    have HS:=hid (And.intro hs (And.intro hsM (And.intro hv (And.intro hvc hvL))))
    have C0:=hid c0
    have D0:=hid d0
    have C1:=hid c1
    have D1:=hid d1
    have C2:=hid c2
    have D2:=hid d2
    have C3:=hid c3
    have D3:=hid d3
    have C4:=hid c4
    have D4:=hid d4
    have C5:=hid c5
    have D5:=hid d5
    have C6:=hid c6
    have D6:=hid d6
    have C7:=hid c7
    have D7:=hid d7
    clear hxM hxn hxe hs hsM hv hvc hvL
    go_wp2_with fail
    clear c0 c1 c2 c3 c4 c5 c6 c7 d0 d1 d2 d3 d4 d5 d6 d7
    refine (HGET.out x.c HXX.out.1 _ HBW.out).mono ?_
    rintro e4 w4 ⟨t,rfl,htc,htm,hb4⟩
    have hbn:Below w4.heap.size w4 (w4.alloc (.cells #[.int .u32 t.c.id,.int .u32 t.c.sg,.int .u8 t.c.st,.bool t.c.cp,.bool t.c.dd,.slice t.p t.n t.m,.int .i64 t.c.fs,.int .i64 t.c.sz] 58)):=(Below.refl _ _).alloc (Nat.le_refl _) _
    have HTB:=hid (z0c w4 (.cells #[.int .u32 t.c.id,.int .u32 t.c.sg,.int .u8 t.c.st,.bool t.c.cp,.bool t.c.dd,.slice t.p t.n t.m,.int .i64 t.c.fs,.int .i64 t.c.sz] 58))
    have HTC:=hid htc
    have HTM:=hid (OL.later' htm hbn)
    have HB4:=hid (hb4.trans (hbn.mono hb4.size))
    have HBW4:=hid (HBW.out.trans (HB4.out.mono HBW.out.size))
    clear hb4 hbn htc htm
    go_upto_region 10 with (fail)
    generalize w4.alloc (.cells #[.int .u32 t.c.id,.int .u32 t.c.sg,.int .u8 t.c.st,.bool t.c.cp,.bool t.c.dd,.slice t.p t.n t.m,.int .i64 t.c.fs,.int .i64 t.c.sz] 58)=W4 at *
    generalize w4.heap.size=TB at *
    have c0:=z2q HB4.out C0.out
    have c1:=z2q HB4.out C1.out
    have c2:=z2q HB4.out C2.out
    have c3:=z2q HB4.out C3.out
    have c4:=z2q HB4.out C4.out
    have c5:=z2q HB4.out C5.out
    have c6:=z2q HB4.out C6.out
    have c7:=z2q HB4.out C7.out
    go_wp2_with fail
    clear c0 c1 c2 c3 c4 c5 c6 c7
    refine (HOF.out x.c s HXX.out.1 HS.out.1 _ HBW4.out).mono ?_
    rintro e5 w5 ⟨u,rfl,huc,hum,hb5⟩
    have hbn:Below w5.heap.size w5 (w5.alloc (.cells #[.int .u32 u.c.id,.int .u32 u.c.sg,.int .u8 u.c.st,.bool u.c.cp,.bool u.c.dd,.slice u.p u.n u.m,.int .i64 u.c.fs,.int .i64 u.c.sz] 58)):=(Below.refl _ _).alloc (Nat.le_refl _) _
    have HUB:=hid (z0c w5 (.cells #[.int .u32 u.c.id,.int .u32 u.c.sg,.int .u8 u.c.st,.bool u.c.cp,.bool u.c.dd,.slice u.p u.n u.m,.int .i64 u.c.fs,.int .i64 u.c.sz] 58))
    have HUC:=hid huc
    have HUM:=hid (OL.later' hum hbn)
    have HB45:=hid (hb5.trans (hbn.mono hb5.size))
    have HB5:=hid (HB4.out.trans (HB45.out.mono HB4.out.size))
    have HTB5:=hid (z0b HTB.out HB45.out)
    have HTM5:=hid (OL.later' HTM.out HB45.out)
    have HBW5:=hid (HBW.out.trans (HB5.out.mono HBW.out.size))
    clear hb5 hbn huc hum HTB HTM HB4 HB45 HBW4
    go_upto_region 11 with (fail)
    generalize w5.alloc (.cells #[.int .u32 u.c.id,.int .u32 u.c.sg,.int .u8 u.c.st,.bool u.c.cp,.bool u.c.dd,.slice u.p u.n u.m,.int .i64 u.c.fs,.int .i64 u.c.sz] 58)=W5 at *
    generalize w5.heap.size=UB at *
    have c0:=z2q HB5.out C0.out
    have c1:=z2q HB5.out C1.out
    have c2:=z2q HB5.out C2.out
    have c3:=z2q HB5.out C3.out
    have c4:=z2q HB5.out C4.out
    have c5:=z2q HB5.out C5.out
    have c6:=z2q HB5.out C6.out
    have c7:=z2q HB5.out C7.out
    go_wp2_with fail
    clear c0 c1 c2 c3 c4 c5 c6 c7
    refine (HRO.out v x.c.sg HS.out.2.2.1 _ HBW5.out).mono ?_
    rintro e6 w6 ⟨rfl,hb6⟩
    have hbn:Below w6.heap.size w6 (w6.alloc (.cells #[.int .u32 v.c.id,.int .u32 v.c.sg,.int .u8 v.c.st,.bool v.c.cp,.bool v.c.dd,.slice v.p v.n v.m,.int .i64 v.c.fs,.int .i64 v.c.sz] 58)):=(Below.refl _ _).alloc (Nat.le_refl _) _
    have HVB:=hid (z0c w6 (.cells #[.int .u32 v.c.id,.int .u32 v.c.sg,.int .u8 v.c.st,.bool v.c.cp,.bool v.c.dd,.slice v.p v.n v.m,.int .i64 v.c.fs,.int .i64 v.c.sz] 58))
    have HB56:=hid (hb6.trans (hbn.mono hb6.size))
    have HB6:=hid (HB5.out.trans (HB56.out.mono HB5.out.size))
    have HTB6:=hid (z0b HTB5.out HB56.out)
    have HTM6:=hid (OL.later' HTM5.out HB56.out)
    have HUB6:=hid (z0b HUB.out HB56.out)
    have HUM6:=hid (OL.later' HUM.out HB56.out)
    have HBW6:=hid (HBW.out.trans (HB6.out.mono HBW.out.size))
    clear hb6 hbn HTB5 HTM5 HUB HUM HB5 HB56 HBW5
    go_upto_region 12 with (fail)
    generalize w6.alloc (.cells #[.int .u32 v.c.id,.int .u32 v.c.sg,.int .u8 v.c.st,.bool v.c.cp,.bool v.c.dd,.slice v.p v.n v.m,.int .i64 v.c.fs,.int .i64 v.c.sz] 58)=W6 at *
    generalize w6.heap.size=VB at *
    have HS1:Hid (∀ p:After W6,Calls Tryz.prog 37 #[.agg #[.int .u32 y.c.id,.int .u32 y.c.sg,.int .u8 y.c.st,.bool y.c.cp,.bool y.c.dd,.slice y.p y.n y.m,.int .i64 y.c.fs,.int .i64 y.c.sz],.agg #[.int .u32 x.c.id,.int .u32 x.c.sg,.int .u8 x.c.st,.bool x.c.cp,.bool x.c.dd,.slice x.p x.n x.m,.int .i64 x.c.fs,.int .i64 x.c.sz]] p.w fun e w'=>e=.returned (.bool true)∧Below p.w.heap.size p.w w'):=hid fun p=>by
     have h1:=z7c y x p.w (OL.later' (OL.later' HYM.out HB6.out) p.h) (OL.later' (OL.later' HXM.out HB6.out) p.h) (by have:=HYN.out;omega) (by have:=HXX.out.2.1;omega)
     rw [decide_eq_true HYX.out] at h1
     exact h1
    have HS2:Hid (∀ p:After W6,Calls Tryz.prog 37 #[.agg #[.int .u32 t.c.id,.int .u32 t.c.sg,.int .u8 t.c.st,.bool t.c.cp,.bool t.c.dd,.slice t.p t.n t.m,.int .i64 t.c.fs,.int .i64 t.c.sz],.agg #[.int .u32 x.c.id,.int .u32 x.c.sg,.int .u8 x.c.st,.bool x.c.cp,.bool x.c.dd,.slice x.p x.n x.m,.int .i64 x.c.fs,.int .i64 x.c.sz]] p.w fun e w'=>e=.returned (.bool true)∧Below p.w.heap.size p.w w'):=hid fun p=>by
     have hn1:t.n≤20:=by rw [← HTM6.out.len,HTC.out];exact HMF.out _ HXX.out.1
     have h1:=z7c t x p.w (OL.later' HTM6.out p.h) (OL.later' (OL.later' HXM.out HB6.out) p.h) (by omega) (by have:=HXX.out.2.1;omega)
     rw [decide_eq_true HTC.out] at h1
     exact h1
    have HS3:Hid (∀ p:After W6,Calls Tryz.prog 37 #[.agg #[.int .u32 u.c.id,.int .u32 u.c.sg,.int .u8 u.c.st,.bool u.c.cp,.bool u.c.dd,.slice u.p u.n u.m,.int .i64 u.c.fs,.int .i64 u.c.sz],.agg #[.int .u32 v.c.id,.int .u32 v.c.sg,.int .u8 v.c.st,.bool v.c.cp,.bool v.c.dd,.slice v.p v.n v.m,.int .i64 v.c.fs,.int .i64 v.c.sz]] p.w fun e w'=>e=.returned (.bool true)∧Below p.w.heap.size p.w w'):=hid fun p=>by
     have hn1:u.n≤20:=by rw [← HUM6.out.len,HUC.out];exact HMF.out _ HS.out.2.1
     obtain⟨hv1,hv2⟩:=HEACH.out v HS.out.2.2.2.2 _ HBW6.out
     have h1:=z7c u v p.w (OL.later' HUM6.out p.h) (OL.later' hv1 p.h) (by omega) (by omega)
     rw [decide_eq_true (HUC.out.trans HS.out.2.2.2.1.symm)] at h1
     exact h1
    have c0:=z2q HB6.out C0.out
    have c1:=z2q HB6.out C1.out
    have c2:=z2q HB6.out C2.out
    have c3:=z2q HB6.out C3.out
    have c4:=z2q HB6.out C4.out
    have c5:=z2q HB6.out C5.out
    have c6:=z2q HB6.out C6.out
    have c7:=z2q HB6.out C7.out
    have d0:=z2q HB6.out D0.out
    have d1:=z2q HB6.out D1.out
    have d2:=z2q HB6.out D2.out
    have d3:=z2q HB6.out D3.out
    have d4:=z2q HB6.out D4.out
    have d5:=z2q HB6.out D5.out
    have d6:=z2q HB6.out D6.out
    have d7:=z2q HB6.out D7.out
    obtain⟨tx0,tx1,tx2,tx3,tx4,tx5,tx6,tx7⟩:=z0g HTB6.out
    obtain⟨ux0,ux1,ux2,ux3,ux4,ux5,ux6,ux7⟩:=z0g HUB6.out
    obtain⟨vx0,vx1,vx2,vx3,vx4,vx5,vx6,vx7⟩:=z0g HVB.out
    have ac0:=fun p:After _=>z0l p c0
    have ac1:=fun p:After _=>z0l p c1
    have ac2:=fun p:After _=>z0l p c2
    have ac3:=fun p:After _=>z0l p c3
    have ac4:=fun p:After _=>z0l p c4
    have ac5:=fun p:After _=>z0l p c5
    have ac6:=fun p:After _=>z0l p c6
    have ac7:=fun p:After _=>z0l p c7
    have ad0:=fun p:After _=>z0l p d0
    have ad1:=fun p:After _=>z0l p d1
    have ad2:=fun p:After _=>z0l p d2
    have ad3:=fun p:After _=>z0l p d3
    have ad4:=fun p:After _=>z0l p d4
    have ad5:=fun p:After _=>z0l p d5
    have ad6:=fun p:After _=>z0l p d6
    have ad7:=fun p:After _=>z0l p d7
    have atx0:=fun p:After _=>z0l p tx0
    have atx1:=fun p:After _=>z0l p tx1
    have atx2:=fun p:After _=>z0l p tx2
    have atx3:=fun p:After _=>z0l p tx3
    have atx4:=fun p:After _=>z0l p tx4
    have atx5:=fun p:After _=>z0l p tx5
    have atx6:=fun p:After _=>z0l p tx6
    have atx7:=fun p:After _=>z0l p tx7
    have aux0:=fun p:After _=>z0l p ux0
    have aux1:=fun p:After _=>z0l p ux1
    have aux2:=fun p:After _=>z0l p ux2
    have aux3:=fun p:After _=>z0l p ux3
    have aux4:=fun p:After _=>z0l p ux4
    have aux5:=fun p:After _=>z0l p ux5
    have aux6:=fun p:After _=>z0l p ux6
    have aux7:=fun p:After _=>z0l p ux7
    have avx0:=fun p:After _=>z0l p vx0
    have avx1:=fun p:After _=>z0l p vx1
    have avx2:=fun p:After _=>z0l p vx2
    have avx3:=fun p:After _=>z0l p vx3
    have avx4:=fun p:After _=>z0l p vx4
    have avx5:=fun p:After _=>z0l p vx5
    have avx6:=fun p:After _=>z0l p vx6
    have avx7:=fun p:After _=>z0l p vx7
    refine z1g (by kernel_rfl) (by kernel_rfl) ?_
    repeat (go_big_quiet_step (first | (go_at_call 37;with_reducible exact z2m _ (HS1.out _)) | (go_at_call 37;with_reducible exact z2m _ (HS2.out _)) | (go_at_call 37;with_reducible exact z2m _ (HS3.out _))))
    refine wpQuiet_nil ?_
    intro w7 hw'
    obtain⟨⟨wq,h6⟩,hw''⟩:=hw'
    subst hw''
    have HB7:=hid (HB.out.trans ((HB6.out.trans (h6.mono HB6.out.size)).mono HB.out.size))
    clear h6
    clear c0 c1 c2 c3 c4 c5 c6 c7 d0 d1 d2 d3 d4 d5 d6 d7 tx0 tx1 tx2 tx3 tx4 tx5 tx6 tx7 ux0 ux1 ux2 ux3 ux4 ux5 ux6 ux7 vx0 vx1 vx2 vx3 vx4 vx5 vx6 vx7 ac0 ac1 ac2 ac3 ac4 ac5 ac6 ac7 ad0 ad1 ad2 ad3 ad4 ad5 ad6 ad7 atx0 atx1 atx2 atx3 atx4 atx5 atx6 atx7 aux0 aux1 aux2 aux3 aux4 aux5 aux6 aux7 avx0 avx1 avx2 avx3 avx4 avx5 avx6 avx7
    go_wp2_with fail
    go_roundw
    case rel=>exact⟨j+1,by omega,by go_num,HB7⟩
    case measure =>
     simp [Go.RowKit.intOf]
     omega
  · obtain rfl:j=n:=by omega
    go_wp2_with fail
    go_ret
    exact⟨rfl,HBW.out⟩
end Go.Proofs.YtnpjpelbcmgodaaGreatDoor
namespace Go.Proofs.YtnpjpelbcmgodaaGreatDoor
open Go.Lib (hid)
set_option maxHeartbeats 8000000
open Go.RowKit Go.ChangeShapes Go.WideShapes Go.Deep
set_option linter.unusedVariables false
set_option linter.unusedSimpArgs false
set_option maxRecDepth 10000
def TxOk (t:Tv):Prop:=Tcok t.c
theorem txnCells8:Tryz.prog.cellsOf 58=8:=by kernel_rfl
section
variable {H:Type} {enc:TypeId × Value→H} {w:World} {base:Nat} {held:Bool}
theorem txn_trod {fuel:Nat} {cs:List Value} {d:DataW H × List MemPlace} (h:DataW.trod enc Tryz.prog w base (fun _=>true) held fuel 58 cs=some d):∃ t:Tv,(TvM w t∧Tcok t.c)∧cs=tce t:=by
 obtain⟨xs,n,_,_,hlen,hxl,hg⟩:=DataW.trod_struct Tryz.underlying58 h
 rw [txnCells8] at hlen
 obtain⟨v0,v1,v2,v3,v4,v5,v6,v7,rfl⟩:∃ v0 v1 v2 v3 v4 v5 v6 v7,cs=[v0,v1,v2,v3,v4,v5,v6,v7]:=by
  match cs,hlen with
  | [a0,a1,a2,a3,a4,a5,a6,a7],_=>exact⟨a0,a1,a2,a3,a4,a5,a6,a7,rfl⟩
 have h8:xs.length=8:=hxl
 have t0:=hg 0 _ rfl
 have t1:=hg 1 _ rfl
 have t2:=hg 2 _ rfl
 have t3:=hg 3 _ rfl
 have t4:=hg 4 _ rfl
 have t5:=hg 5 _ rfl
 have t6:=hg 6 _ rfl
 have t7:=hg 7 _ rfl
 rw [List.getElem?_eq_getElem (by omega)] at t0 t1 t2 t3 t4 t5 t6 t7
 have e0:DataW.trod enc Tryz.prog w base (fun _=>true) held n 32 [v0]=some (xs[0]'(by omega)):=t0
 have e1:DataW.trod enc Tryz.prog w base (fun _=>true) held n 32 [v1]=some (xs[1]'(by omega)):=t1
 have e2:DataW.trod enc Tryz.prog w base (fun _=>true) held n 5 [v2]=some (xs[2]'(by omega)):=t2
 have e3:DataW.trod enc Tryz.prog w base (fun _=>true) held n 4 [v3]=some (xs[3]'(by omega)):=t3
 have e4:DataW.trod enc Tryz.prog w base (fun _=>true) held n 4 [v4]=some (xs[4]'(by omega)):=t4
 have e5:DataW.trod enc Tryz.prog w base (fun _=>true) held n 56 [v5]=some (xs[5]'(by omega)):=t5
 have e6:DataW.trod enc Tryz.prog w base (fun _=>true) held n 2 [v6]=some (xs[6]'(by omega)):=t6
 have e7:DataW.trod enc Tryz.prog w base (fun _=>true) held n 3 [v7]=some (xs[7]'(by omega)):=t7
 obtain⟨z0,hv0,_,wf0⟩:=DataW.trod_int Tryz.underlying32 e0
 obtain⟨z1,hv1,_,wf1⟩:=DataW.trod_int Tryz.underlying32 e1
 obtain⟨z2,hv2,_,wf2⟩:=DataW.trod_int Tryz.underlying5 e2
 obtain⟨z6,hv6,_,wf6⟩:=DataW.trod_int Tryz.underlying2 e6
 obtain⟨z7,hv7,_,wf7⟩:=DataW.trod_int Tryz.underlying3 e7
 obtain⟨z3,hv3,_⟩:=DataW.trod_bool Tryz.underlying4 e3
 obtain⟨z4,hv4,_⟩:=DataW.trod_bool Tryz.underlying4 e4
 simp at hv0 hv1 hv2 hv3 hv4 hv6 hv7
 subst hv0 hv1 hv2 hv3 hv4 hv6 hv7
 obtain⟨p5,n5,c5,rfl⟩:=z5a Tryz.underlying56 e5
 obtain⟨L,hL,hLok⟩:=open_ops e5
 exact⟨⟨⟨z0,z1,z2,z3,z4,L,z6,z7⟩,p5,n5,c5⟩,⟨hL,⟨z5w wf0,z5w wf1,bounds_u8 wf2,hLok,bounds_i64 wf6,bounds_i64 wf7⟩⟩,rfl⟩
theorem open_txns {fuel:Nat} {a:Option Addr} {len cap:Nat} {x:DataW H × List MemPlace}
 (h:DataW.trod enc Tryz.prog w base (fun _=>true) held fuel 22 [.slice a len cap]=some x):∃ L,TL w a len cap L∧∀ y∈L,TxOk y:=by
 rcases open_slice Tryz.underlying22 h with ⟨hcs,_⟩ | ⟨a',l,c,m,n,D,Pl,hcs,hb,hl,hm,hmm,hx,hi⟩
 · simp at hcs
   obtain⟨rfl,rfl,rfl⟩:=hcs
   exact⟨[],TL.empty w,fun y hy=>by cases hy⟩
 · simp at hcs
   obtain⟨rfl,rfl,rfl⟩:=hcs
   rw [if_pos rfl] at hmm
   subst hmm
   have hall:∀ i,i<len→∃ y:Tv,(TvM w y∧Tcok y.c)∧∀ j u,(tce y)[j]?=some u→w.cell? (a'.add (i*8+j))=some u:=by
    intro i hil
    obtain⟨cs',hc,ht⟩:=hi i (by omega)
    rw [txnCells8] at hc
    obtain⟨y,hy,rfl⟩:=txn_trod ht
    obtain⟨_,hcl,hat⟩:=World.cells?_some hc
    refine⟨y,hy,fun j u hu=>?_⟩
    have hj:j<8:=(List.getElem?_eq_some_iff.1 hu).1
    have:=hat j hj
    rw [← Go.Deep.add_add,this]
    exact hu
   obtain⟨f,hf⟩:∃ f:Nat→Tv,∀ i,i<len→(TvM w (f i)∧Tcok (f i).c)∧∀ j u,(tce (f i))[j]?=some u→w.cell? (a'.add (i*8+j))=some u :=
    ⟨fun i=>if h:i<len then Classical.choose (hall i h) else tv0,fun i h=>by dsimp only;rw [dif_pos h];exact Classical.choose_spec (hall i h)⟩
   refine⟨(List.range len).map f,⟨⟨by simp,hl,hm,(fun h=>by cases h),fun h0=>?_⟩,fun y hy=>?_⟩,fun y hy=>?_⟩
   · have h00:=(hf 0 h0).2 0 _ rfl
     have hsp:a'.spot=none:=World.cell?_spot (a:=a') (by simpa [Addr.add] using h00)
     obtain⟨b,off,sp⟩:=a'
     replace hsp:sp=none:=hsp
     subst hsp
     rw [Go.WideShapes.add_plain] at h00
     refine⟨b,off,rfl,World.block_lt_of_cell? _ _ h00,fun j hj i v hv=>?_⟩
     have e:((List.range len).map f).getD j tv0=f j:=by
      rw [List.getD,List.getElem?_map,List.getElem?_range hj];rfl
     rw [e] at hv
     have:=(hf j hj).2 i v hv
     rwa [Go.WideShapes.add_plain,← Nat.add_assoc] at this
   · obtain⟨i,hi',rfl⟩:=List.mem_map.1 hy
     exact (hf i (List.mem_range.1 hi')).1.1
   · obtain⟨i,hi',rfl⟩:=List.mem_map.1 hy
     exact (hf i (List.mem_range.1 hi')).1.2
end
end Go.Proofs.YtnpjpelbcmgodaaGreatDoor
namespace Go.Proofs.YtnpjpelbcmgodaaGreatDoor
open Go.Lib (hid)
set_option maxHeartbeats 8000000
open Go.RowKit Go.ChangeShapes Go.WideShapes
set_option linter.unusedVariables false
set_option linter.unusedSimpArgs false
set_option maxRecDepth 10000
variable {NB:Nat} {Wd:World→Prop} {Ju:World→Nat→List Tc→(Nat→Prop)→Prop}
structure JPl (Ju:World→Nat→List Tc→(Nat→Prop)→Prop) (w wr:World) (B:Nat) (M:List Tc) (Q:Nat→Prop) (r:Option Addr) (m d:Nat) (L:List Tv) (k:Nat):Prop where
 ju:Ju wr B M Q
 rows:TL wr r m d L
 is:L.map (·.c)=M
 ok:TsOk M (12+k) (1048576+10000*k)
 low:∀ j,Q j→w.heap.size≤j
 apart:0<m→∀ a,r=some a→¬ Q a.block
 each:∀ t∈L,0<t.n→∀ a,t.p=some a→¬ Q a.block
 below:Below w.heap.size w wr
theorem JPl.later (I:JnI NB Wd Ju) {w wr w':World} {B:Nat} {M:List Tc} {Q:Nat→Prop} {r:Option Addr} {m d:Nat} {L:List Tv} {k:Nat} (h:JPl Ju w wr B M Q r m d L k) (hb:Below wr.heap.size wr w'):JPl Ju w w' B M Q r m d L k :=
 ⟨I.later h.ju hb,h.rows.later hb,h.is,h.ok,h.low,h.apart,h.each,h.below.trans (hb.mono h.below.size)⟩
theorem JPl.jok {w wr:World} {B:Nat} {M:List Tc} {Q:Nat→Prop} {r:Option Addr} {m d:Nat} {L:List Tv} {k:Nat} (h:JPl Ju w wr B M Q r m d L k) (hk:k≤100):JOk M:=h.ok.mono (by omega) (by omega)
theorem JPl.mem {w wr:World} {B:Nat} {M:List Tc} {Q:Nat→Prop} {r:Option Addr} {m d:Nat} {L:List Tv} {k:Nat} (h:JPl Ju w wr B M Q r m d L k):∀ t∈L,Tcok t.c∧t.n≤20∧0≤t.c.sz∧t.c.sz≤1048576+10000*k:=fun t ht=>by
 have hc:t.c∈M:=by rw [← h.is];exact List.mem_map_of_mem ht
 exact⟨h.ok.ok _ hc,by rw [← (h.rows.each t ht).len];exact h.ok.few _ hc,h.ok.sz _ hc⟩
theorem JPl.len {w wr:World} {B:Nat} {M:List Tc} {Q:Nat→Prop} {r:Option Addr} {m d:Nat} {L:List Tv} {k:Nat} (h:JPl Ju w wr B M Q r m d L k):m≤12+k:=by
 rw [← h.rows.row.len,← List.length_map (f:=(·.c)),h.is]
 exact h.ok.len
theorem tl_turn {w w':World} {Q:Nat→Prop} {r:Option Addr} {m d:Nat} {L:List Tv} (h:TL w r m d L) (ht:Turn Q w w') (h1:0<m→∀ a,r=some a→¬ Q a.block) (h2:∀ t∈L,0<t.n→∀ a,t.p=some a→¬ Q a.block):TL w' r m d L :=
 ⟨h.row.turn ht.size fun h0 a ha hlt=>ht.block a.block hlt (h1 h0 a ha),fun t htl=>(h.each t htl).turn ht.size fun h0 a ha hlt=>ht.block a.block hlt (h2 t htl h0 a ha)⟩
theorem q0k {α:Type} {enc:α→List Value} {k:Nat} {d0:α} {w:World} {p:Option Addr} {n c:Nat} {L:List α} (h:SlG enc k d0 w p n c L) (h0:0<n) {a:Addr} (e:p=some a):a.block<w.heap.size:=by
 obtain⟨b,off,hp,hb,_⟩:=h.cell h0
 rw [hp] at e
 cases e
 exact hb
theorem JPl.step (I:JnI NB Wd Ju) {w wr w1 w2:World} {B:Nat} {M M':List Tc} {Q:Nat→Prop} {r r':Option Addr} {m d m' d':Nat} {L L':List Tv} {k:Nat} (h:JPl Ju w wr B M Q r m d L k) (hb:Below wr.heap.size wr w1) (ht:TL w1 r' m' d' L') (hm:L'.map (·.c)=M') (hr:(r'=r∧m'=m)∨∀ a,r'=some a→wr.heap.size≤a.block) (hf:∀ t∈L',Frs wr L t)
 (hok:TsOk M' (12+(k+1)) (1048576+10000*((k+1:Nat):Int))) (ha:JActed Ju w1 w2 B M' Q):∃ Q',JPl Ju w w2 B M' Q' r' m' d' L' (k+1):=by
 obtain⟨Q',g1,g2,g3⟩:=ha
 have hlt:=I.lt h.ju
 have a1:0<m'→∀ a,r'=some a→¬ Q a.block:=fun h0 a e hq=>by
  rcases hr with ⟨hr,hm0⟩ | hr
  · exact h.apart (by omega) a (hr ▸ e) hq
  · have:=hr a e;have:=hlt _ hq;omega
 have a2:∀ t∈L',0<t.n→∀ a,t.p=some a→¬ Q a.block:=fun t htl h0 a e hq=>by
  rcases hf t htl with ⟨u,hu,h1,h2⟩ | h1
  · exact h.each u hu (by omega) a (h1 ▸ e) hq
  · have:=h1 a e;have:=hlt _ hq;omega
 have TLAST:=tl_turn ht g3 a1 a2
 refine⟨Q',g1,TLAST,hm,hok,fun j hj=>?_,fun h0 a e hq=>?_,fun t htl h0 a e hq=>?_,(h.below.trans (hb.mono h.below.size)).trans (g3.below (Nat.le_trans h.below.size hb.size) h.low)⟩
 · rcases g2 j hj with e | e
   · exact h.low j e
   · exact Nat.le_trans (Nat.le_trans h.below.size hb.size) e
 · rcases g2 _ hq with e2 | e2
   · exact a1 h0 a e e2
   · have:=q0k ht.row h0 e
     omega
 · rcases g2 _ hq with e2 | e2
   · exact a2 t htl h0 a e e2
   · have:=q0k (ht.each t htl) h0 e
     omega
theorem law_jplays (I:JnI NB Wd Ju) (I2:JnI2 NB Ju) (I5:JnI5 NB Ju) (p:Option Addr) (n c:Nat) (L:List Tv) (q:Option Addr) (n2 c2:Nat) (H:List Rv) (at_:Int) (w:World) (hW:Wd w) (hL:TL w p n c L) (hx:∀ t∈L,TxOk t) (hH:RcL w q n2 c2 H) (ha:In64 at_) (hNB:100≤NB) :
 Calls Tryz.prog 3 #[.slice p n c,.slice q n2 c2,.int .i64 at_] w fun e w'=>e=.returned (.bool true)∧Below w.heap.size w w':=by
 have HI:=hid I
 have HNB:=hid hNB
 clear hNB
 have HI2:=hid I2
 have HI5:=hid I5
 have HL:=hid hL
 have HX:=hid hx
 have HH:=hid hH
 have HA:=hid ha
 have HW:=hid fun w' (hb:Below w.heap.size w w')=>I.wd hW hb
 have HF:=hid (jFew_any p n c L w hL.row)
 have HR:=hid fun w' (hb:Below w.heap.size w w')=>jfew_any q n2 c2 H w' (hH.later hb)
 have HWK:=hid fun w' (hb:Below w.heap.size w w')=>jworks_any I w' (I.wd hW hb)
 have hcap:=hH.row.cap
 clear hL hx hH ha hW I I2 I5
 go_enter Tryz.func3,Tryz.ntmps3
 go_wp2_with fail
 refine HF.out.mono ?_
 rintro e1 w1 ⟨t1,rfl,ht1,hb1⟩
 have HB1:=hid hb1
 have HT1:=hid ht1
 clear hb1 ht1 HF
 cases t1 with
 | false =>
  go_wp2_with fail
  refine (HWK.out _ HB1.out).mono ?_
  rintro e2 w2 ⟨rfl,hb2⟩
  have HB2:=hid (HB1.out.trans (hb2.mono HB1.out.size))
  clear hb2
  go_wp2_with fail
  go_ret
  exact⟨rfl,HB2.out⟩
 | true =>
  have HFT:Hid (FewT n L):=hid (HT1.out rfl)
  clear HT1
  go_wp2_with fail
  refine (HR.out _ HB1.out).mono ?_
  rintro e2 w2 ⟨t2,rfl,ht2,hb2⟩
  have HB2:=hid (HB1.out.trans (hb2.mono HB1.out.size))
  have HT2:=hid ht2
  clear hb2 ht2 HR HB1
  cases t2 with
  | false =>
   go_wp2_with fail
   refine (HWK.out _ HB2.out).mono ?_
   rintro e3 w3 ⟨rfl,hb3⟩
   have HB3:=hid (HB2.out.trans (hb3.mono HB2.out.size))
   clear hb3
   go_wp2_with fail
   go_ret
   exact⟨rfl,HB3.out⟩
  | true =>
   have HFR:Hid (n2≤60∧∀ j,j<n2→SmV (H.getD j rz)):=hid (HT2.out rfl)
   clear HT2
   have hfm:∀ t∈L,t.n≤20∧0≤t.c.sz∧t.c.sz≤1048576:=fun t ht=>by
    obtain⟨i,hi,rfl⟩:=List.getElem_of_mem ht
    have h1:=HFT.out.2 i (by rw [← HL.out.row.len];exact hi)
    rw [List.getD,List.getElem?_eq_getElem hi] at h1
    exact h1
   have HOK0:Hid (TsOk (newT Tc.id (L.map (·.c))) (12+0) (1048576+10000*((0:Nat):Int))):=hid (TsOk.new
    (fun x hx=>by obtain⟨t,ht,rfl⟩:=List.mem_map.1 hx;exact HX.out t ht)
    (by rw [List.length_map,HL.out.row.len];exact HFT.out.1)
    (fun x hx=>by obtain⟨t,ht,rfl⟩:=List.mem_map.1 hx;rw [(HL.out.each t ht).len];exact (hfm t ht).1)
    (fun x hx=>by obtain⟨t,ht,rfl⟩:=List.mem_map.1 hx;have:=(hfm t ht).2;omega))
   have HNEW:=hid (HI.out.new p n c L w2 (HL.out.later HB2.out) (by have:=HFT.out.1;omega) (fun t ht=>by have:=(hfm t ht).1;omega) (fun t ht=>(HX.out t ht).id))
   clear hfm
   go_wp2_with fail
   refine HNEW.out.mono ?_
   rintro e3 w3 ⟨B,Q,rfl,hj,hq,hb3⟩
   have HJ3:=hid hj
   have HQ3:=hid hq
   have HB23:=hid hb3
   have HB3:=hid (HB2.out.trans (hb3.mono HB2.out.size))
   clear hj hq hb3 HNEW
   go_wp2_with fail
   refine (rtnew_any p n c L w3 (HL.out.row.later HB3.out) (by have:=HFT.out.1;omega)).mono ?_
   rintro e4 w4 ⟨r,d,rfl,hs,hb4,hr⟩
   have HP4:Hid (JPl Ju w w4 B (newT Tc.id (L.map (·.c))) Q r (newT Tv.id L).length d (newT Tv.id L) 0):=hid
    ⟨HI.out.later HJ3.out hb4,⟨hs,fun t ht=>((HL.out.each t (z6p ht)).later HB3.out).later hb4⟩,map_newT (fun _=>rfl) L,HOK0.out,fun j hj=>Nat.le_trans HB2.out.size (HQ3.out j hj),
     fun h0 a e hq=>by have h1:=hr a e;have h2:=HI.out.lt HJ3.out _ hq;omega,
     fun t ht h0 a e hq=>by have h1:=q0k (HL.out.each t (z6p ht)) h0 e;have h2:=HQ3.out _ hq;have h3:=HB2.out.size;omega,
     HB3.out.trans (hb4.mono HB3.out.size)⟩
   clear hs hb4 hr HJ3 HQ3 HB23 HB3 HOK0
   generalize newT Tc.id (L.map (·.c))=M0 at *
   generalize newT Tv.id L=L0 at *
   generalize L0.length=m0 at *
   go_wp2_with fail
   go_loopw [8,9] (fun v i wr=>∃ (j:Nat) (M:List Tc) (Q:Nat→Prop) (r:Option Addr) (m d:Nat) (Lx:List Tv),j≤n2∧i=.int .i64 (j:Int)∧v=.slice r m d∧Hid (JPl Ju w wr B M Q r m d Lx j)) (fun _ i _=>n2-(Go.RowKit.intOf i).toNat)
   case atStart=>exact⟨0,M0,Q,r,m0,d,L0,Nat.zero_le _,rfl,rfl,HP4⟩
   case round =>
    obtain⟨j,M,Q,r,m,d,Lx,hj,rfl,rfl,HP⟩:=hrel
    have hmx:(n2:Int)≤60:=by have:=HFR.out.1;omega
    by_cases hlt:j<n2
    · have t1:(j:Int)<n2:=by omega
      obtain⟨b,off,rfl,_,hpc⟩:=(HH.out.later HP.out.below).at hlt
      obtain⟨La,Ta,Ma,hxk,hrm⟩:=HH.out.in hlt
      have hsv:=HFR.out.2 j hlt
      generalize H.getD j rz=x at *
      have HPC:=hid hpc
      have HXK:=hid hxk
      have HSV:=hid hsv
      have HRM:=hid hrm
      have HRA:=hid (rapply_any r m d Lx at_ x La Ta Ma wr HP.out.rows (by have:=HP.out.len;omega) (fun t ht=>by have h1:=HP.out.mem t ht;refine⟨h1.1,by omega,h1.2.2.1,by omega⟩) (hrm.later HP.out.below) hxk hsv HA.out)
      rw [HP.out.is] at HRA
      have HOK:=hid (HP.out.ok.app (X:=x.x La Ta Ma) (at_:=at_) ⟨by omega,by omega⟩ hxk HA.out)
      clear hpc hxk hsv hrm
      obtain⟨⟨M',z'⟩,hap⟩:∃ a,appC M at_ (x.x La Ta Ma)=a:=⟨_,rfl⟩
      have HAC:=hid fun w1 (hb:Below wr.heap.size wr w1)=>HI.out.apply w1 B M Q at_ x La Ta Ma (HW.out w1 (HP.out.below.trans (hb.mono HP.out.below.size))) (HI.out.later HP.out.ju hb) (HP.out.jok (by omega)) HA.out (HRM.out.later (HP.out.below.trans (hb.mono HP.out.below.size))) HXK.out HSV.out
      rw [hap] at HRA HAC HOK
      dsimp only at HRA HAC HOK
      clear hap
      have q0:(z' != z')=false:=by simp
      go_wp2_with ((with_reducible refine wpList_load_ratT (r:=x) ?_ HPC.out ?_);rfl)
      refine HRA.out.mono ?_
      rintro e5 w5 ⟨r',m',d',L',rfl,htl,hmm,hb5,hrr,hfr⟩
      have HB5:=hid hb5
      have HTL:=hid htl
      have HMM:=hid (And.intro hmm (And.intro hrr hfr))
      have HPC5:Hid (∀ i u,(rcs x).toList[i]?=some u→w5.cell? ⟨b,off+j*20+i,none⟩=some u):=hid fun i u hu=>z2q hb5 (HPC.out i u hu)
      clear htl hmm hb5 hrr hfr HRA
      go_wp2_with ((with_reducible refine wpList_load_ratT (r:=x) ?_ HPC5.out ?_);rfl)
      refine (HAC.out _ HB5.out).mono ?_
      rintro e6 w6 ⟨rfl,hact⟩
      obtain⟨Q6,hp6⟩:=HP.out.step HI.out HB5.out HTL.out HMM.out.1 (by rw [← HP.out.rows.row.len];exact HMM.out.2.1) HMM.out.2.2 (HOK.out.mono (by omega) (by omega)) hact
      have HP6:=hid hp6
      clear hact hp6 HAC HTL HB5 HMM HP
      go_wp2_with fail
      refine (jsame_any HI.out HI2.out HI5.out w6 B M' Q6 r' m' d' L' HP6.out.ju (HP6.out.jok (by omega)) (by have h1:=HP6.out.ok.len;have h2:=HNB.out;omega) HP6.out.rows HP6.out.is (fun t ht=>by have:=(HP6.out.mem t ht).2.1;omega)).mono ?_
      rintro e7 w7 ⟨rfl,hb7⟩
      have HP7:=hid (HP6.out.later HI.out hb7)
      clear hb7 HP6
      go_wp2_with fail
      go_roundw
      case rel=>exact⟨j+1,M',Q6,r',m',d',L',by omega,by go_num,rfl,HP7⟩
      case measure =>
       simp [Go.RowKit.intOf]
       omega
    · obtain rfl:j=n2:=by omega
      go_wp2_with fail
      refine (jsame_any HI.out HI2.out HI5.out wr B M Q r m d Lx HP.out.ju (HP.out.jok (by omega)) (by have h1:=HP.out.ok.len;have h2:=HNB.out;omega) HP.out.rows HP.out.is (fun t ht=>by have:=(HP.out.mem t ht).2.1;omega)).mono ?_
      rintro e7 w7 ⟨rfl,hb7⟩
      have HB7:=hid (HP.out.below.trans (hb7.mono HP.out.below.size))
      clear hb7 HP
      go_wp2_with fail
      refine (HWK.out _ HB7.out).mono ?_
      rintro e8 w8 ⟨rfl,hb8⟩
      have HB8:=hid (HB7.out.trans (hb8.mono HB7.out.size))
      clear hb8
      go_wp2_with fail
      go_ret
      exact⟨rfl,HB8.out⟩
end Go.Proofs.YtnpjpelbcmgodaaGreatDoor
