import Derived.Test.YtnpjpelbcmgodaaDoorPE99
import Derived.Test.YtnpjpelbcmgodaaDoorPE42
import Derived.Test.YtnpjpelbcmgodaaDoorPE36
import Derived.Test.YtnpjpelbcmgodaaDoorPE48
namespace Go.Proofs.YtnpjpelbcmgodaaDoor
open Go.Lib (hid)
set_option maxHeartbeats 16000000
open Go.RowKit Go.ChangeShapes Go.WideShapes
set_option linter.unusedVariables false
set_option linter.unusedSimpArgs false
set_option maxRecDepth 10000
theorem z2e {W w:World} (hb:Below W.heap.size W w):z2n W [] (.returned (.slice none 0 0)) w:=⟨none,0,rfl,SlG.empty _,hb,fun _ h=>by cases h⟩
theorem z1j {W W2:World} {V:List O} {e:Ending} {w':World} (h:z2n W2 V e w') (hb:Below W.heap.size W W2):z2n W V e w':=GivesG.since h hb
theorem z7a {c:Crs} (hg:z2d c=true) (hok:Pgok c.P) (ht:(z1k c).2=true):∃ i:Nat,(z1k c).1=(i:Int)∧i<(z0l c.P).length∧stpC c=(z0l c.P).getD i stp0∧z5n (stpC c):=by
 obtain⟨_,g2,g3,g4,_⟩:=z1q hg
 have hi:0≤(z1k c).1∧(z1k c).1<((z0l c.P).length:Int):=by
  unfold z1k lenC at *
  split at ht
  · rename_i h
    simp only [if_pos h,decide_eq_true_eq] at ht ⊢
    omega
  · rename_i h
    simp only [if_neg h,decide_eq_true_eq] at ht ⊢
    omega
 have hlt:(z1k c).1.toNat<(z0l c.P).length:=by omega
 refine⟨(z1k c).1.toNat,by omega,hlt,rfl,(z3d g2 hok).2 _ ?_⟩
 unfold stpC
 rw [List.getD,List.getElem?_eq_getElem hlt]
 exact List.getElem_mem _
theorem cr_ops (c:Cv) (L:List Ln) (T:List Tk) (M:List Ln) (W:World) (hw:Words W) (hP:CvM W c L T M) (hok:Crok (c.x L T M)) (h1:c.p.ln≤400∧c.p.tn≤400∧c.p.wn≤400):Calls Tryd.prog 22 #[.agg (ccs c)] W (z2n W (opsC (c.x L T M))):=by
 obtain⟨W1,hW1,hx,hb1⟩:∃ W1,W.alloc (.cells (ccs c) 28)=W1∧CB W1 W.heap.size c∧Below W.heap.size W W1:=⟨_,rfl,CB.new W c,(Below.refl _ _).alloc (Nat.le_refl _) _⟩
 obtain⟨B,hB⟩:∃ B,W.heap.size=B:=⟨_,rfl⟩
 rw [hB] at hx
 have HX:=hid hx
 have HW1:=hid hW1
 have HB1:=hid hb1
 have HRE:=hid hB
 have hgd:=z6r c L T M W1 (hw.later hb1) (hP.later hb1) hok h1
 cases hg:z2d (c.x L T M) with
 | false =>
  rw [hg] at hgd
  have HE:Hid (opsC (c.x L T M)=[]):=hid (by unfold opsC;rw [if_pos (.inl hg)])
  clear hW1 hx hb1 hB hw hP hok h1 hg
  go_enter Tryd.func22,Tryd.ntmps22
  go_upto_region 1 with (fail)
  rw [HW1.out,HRE.out]
  go_wp2_with ((with_reducible refine z0c HX.out ?_ ?_);rfl)
  refine hgd.mono ?_
  rintro e w2 ⟨rfl,h2⟩
  have HB2:=hid (HB1.out.trans (h2.mono HB1.out.size))
  clear h2 hgd
  go_wp2_with fail
  go_ret
  rw [HE.out]
  exact z2e HB2.out
 | true =>
  rw [hg] at hgd
  have HTU:=hid fun w' (hb:Below W1.heap.size W1 w')=>z8c c L T M w' (hw.later (hb1.trans (hb.mono hb1.size))) ((hP.later hb1).later hb) hok h1 hg
  have HBK:Hid ((z1k (c.x L T M)).2=true→opsC (c.x L T M)=if c.bk then negF (opsT (stpC (c.x L T M))) else opsT (stpC (c.x L T M))):=hid fun h=>by unfold opsC;rw [if_neg (by simp [hg,h])];rfl
  have HNO:Hid ((z1k (c.x L T M)).2=false→opsC (c.x L T M)=[]):=hid fun h=>by unfold opsC;rw [if_pos (.inr h)]
  have HAT:=hid (fun h=>z7a (c:=c.x L T M) hg hok.P h)
  have HS:Hid (∀ w',Below W1.heap.size W1 w'→Calls Tryd.prog 39 #[.agg #[.int .u8 c.p.pk,.int .u32 c.p.od,.int .u8 c.p.po,.slice c.p.lp c.p.ln c.p.lcp,.slice c.p.tp c.p.tn c.p.tcp,.slice c.p.wp c.p.wn c.p.wcp,.int .u8 c.p.sk,.int .u8 c.p.fr,.int .u8 c.p.to,.int .i64 c.p.q]] w' (GivesS w' (z0l (c.p.pg L T M)))):=hid fun w' hb=>z7b c.p.pk c.p.od c.p.po c.p.lp c.p.ln c.p.lcp c.p.tp c.p.tn c.p.tcp c.p.wp c.p.wn c.p.wcp c.p.sk c.p.fr c.p.to c.p.q L T M w' (hw.later (hb1.trans (hb.mono hb1.size))) ((hP.later hb1).later hb) hok.P h1
  have HXP:Hid ((c.x L T M).P=c.p.pg L T M):=hid rfl
  clear hW1 hx hb1 hB hw hP hok h1 hg
  generalize c.x L T M=X at *
  generalize c.p.pg L T M=P at *
  rw [HXP.out] at HAT
  clear HXP
  obtain⟨y,hy⟩:∃ y,(z1k X).2=y:=⟨_,rfl⟩
  rw [hy] at HTU HBK HNO HAT
  clear hy
  cases y with
  | false =>
   go_enter Tryd.func22,Tryd.ntmps22
   go_upto_region 1 with (fail)
   rw [HW1.out,HRE.out]
   go_wp2_with ((with_reducible refine z0c HX.out ?_ ?_);rfl)
   refine hgd.mono ?_
   rintro e w2 ⟨rfl,h2⟩
   have HX2:=hid (HX.out.later h2)
   have HB2:=hid h2
   clear h2 hgd
   go_wp2_with ((with_reducible refine z0c HX2.out ?_ ?_);rfl)
   refine (HTU.out _ HB2.out).mono ?_
   rintro e w3 ⟨rfl,h3⟩
   have HB3:=hid (HB2.out.trans (h3.mono HB2.out.size))
   clear h3
   go_wp2_with fail
   go_ret
   rw [HNO.out (by first | rfl | trivial)]
   exact z2e (HB1.out.trans (HB3.out.mono HB1.out.size))
  | true =>
   obtain⟨i,hi1,hi2,hi3,hf⟩:=HAT.out rfl
   have hbk:=HBK.out rfl
   rw [hi3] at hf hbk
   rw [hi1] at HTU
   have HBY:=hid hbk
   have HFI:=hid hf
   clear HAT HBK HNO hi1 hi3 hf hbk
   obtain⟨n,hn⟩:∃ n,(z0l P).length=n:=⟨_,rfl⟩
   rw [hn] at hi2
   have HN:=hid hn
   clear hn
   go_enter Tryd.func22,Tryd.ntmps22
   go_upto_region 1 with (fail)
   rw [HW1.out,HRE.out]
   go_wp2_with ((with_reducible refine z0c HX.out ?_ ?_);rfl)
   refine hgd.mono ?_
   rintro e w2 ⟨rfl,h2⟩
   have HX2:=hid (HX.out.later h2)
   have HB2:=hid h2
   clear h2 hgd
   go_wp2_with ((with_reducible refine z0c HX2.out ?_ ?_);rfl)
   refine (HTU.out _ HB2.out).mono ?_
   rintro e w3 ⟨rfl,h3⟩
   have HX3:=hid (HX2.out.later h3)
   have HB3:=hid (HB2.out.trans (h3.mono HB2.out.size))
   clear h3
   go_wp2_with ((with_reducible refine z1e HX3.out ?_ ?_);rfl)
   refine (HS.out _ HB3.out).mono ?_
   rintro e w4 ⟨p4,c4,H4,rfl,hs4,h4⟩
   have HX4:=hid (HX3.out.later h4)
   have HB4:=hid (HB3.out.trans (h4.mono HB3.out.size))
   simp only [HN.out] at hs4 ⊢
   have hc4:=hs4.row.cap
   obtain⟨b,off,rfl,_,k0,k1,k2⟩:=z2r hs4.row hi2
   obtain⟨t1,t2,t3⟩:=hs4.tells.at i (by rw [hs4.row.len];exact hi2)
   rw [t1] at k0
   rw [t2] at k1
   rw [show (z0l P).getD i stp0=(z0l P).getD i (0,0,[]) from rfl] at HBY HFI
   generalize (z0l P).getD i (0,0,[])=sj at *
   obtain⟨ts,rs,Lq⟩:=sj
   generalize H4.getD i hs0=hd at *
   obtain⟨y1,y2,ip,il,ic⟩:=hd
   dsimp only at k0 k1 k2 t1 t2 t3
   obtain⟨f1,f2,f3,f4,f5⟩:=HFI.out
   dsimp only at f1 f2 f3 f4 f5
   have hl1:=t3.len
   have hba:Below w4.heap.size w4 (w4.alloc (.cells #[.int .u8 ts,.int .u8 rs,.slice ip il ic] 76)):=(Below.refl _ _).alloc (Nat.le_refl _) _
   have HOP:=hid (z7y ts rs ip il ic Lq (w4.alloc (.cells #[.int .u8 ts,.int .u8 rs,.slice ip il ic] 76)) (t3.later hba) f4 (by omega))
   have HUN:=hid (undo_any ts rs ip il ic Lq (w4.alloc (.cells #[.int .u8 ts,.int .u8 rs,.slice ip il ic] 76)) (t3.later hba) f4 f3 (by omega))
   have a11:=(HX4.out.later hba).at.2.1
   have HB5:=hid (HB1.out.trans ((HB4.out.trans (hba.mono HB4.out.size)).mono HB1.out.size))
   clear t1 t2 t3 f1 f2 f3 f4 f5 hl1 hba hs4 h4 HFI HS HTU
   cases hbk:c.bk
   all_goals
    rw [hbk] at a11 HBY
    have HBZ:=HBY.out
    first | rw [if_pos rfl] at HBZ | rw [if_neg (by simp)] at HBZ
    have HBW:=hid HBZ
    clear HBZ HBY
    go_wp2_with fail
    first | refine HOP.out.mono ?_ | refine HUN.out.mono ?_
    intro e w6 h6
    have h7:=z1j h6 HB5.out
    obtain⟨p6,c6,rfl,h8⟩:=h7
    have H8:=hid h8
    clear h8 h6
    go_wp2_with fail
    go_ret
    rw [HBW.out]
    exact⟨p6,c6,rfl,H8.out⟩
theorem cr_live (c:Cv) (L:List Ln) (T:List Tk) (M:List Ln) (W:World) (hw:Words W) (hP:CvM W c L T M) (hok:Crok (c.x L T M)) (h1:c.p.ln≤400∧c.p.tn≤400∧c.p.wn≤400) (t:Tv) (hT:TvM W t) (hn:t.n≤1000):Calls Tryd.prog 24 #[.agg (ccs c),.agg #[.int .u32 t.c.id,.int .u32 t.c.sg,.int .u8 t.c.st,.bool t.c.cp,.bool t.c.dd,.slice t.p t.n t.m,.int .i64 t.c.fs,.int .i64 t.c.sz]] W (z2n W (z4f (c.x L T M) t.c)):=by
 obtain⟨W1,hW1,hx,ht,hb1⟩:=z5w W c t
 obtain⟨B,hB⟩:∃ B,W.heap.size=B:=⟨_,rfl⟩
 rw [hB] at hx ht
 have HX:=hid hx
 have HT:=hid ht
 have HW1:=hid hW1
 have HB1:=hid hb1
 have HRE:=hid hB
 have hgd:=z6r c L T M W1 (hw.later hb1) (PgM.later hP hb1) hok h1
 cases hg:z2d (c.x L T M) with
 | false =>
  rw [hg] at hgd
  have HE:Hid (z4f (c.x L T M) t.c=[]):=hid (by unfold z4f;rw [if_pos hg])
  generalize z4f (c.x L T M) t.c=LV at *
  clear hW1 hx ht hb1 hB hw hP hok h1 hT hn hg
  go_enter Tryd.func24,Tryd.ntmps24
  go_upto_region 1 with (fail)
  rw [HW1.out,HRE.out]
  go_wp2_with ((with_reducible refine z0c HX.out ?_ ?_);rfl)
  refine hgd.mono ?_
  rintro e w2 ⟨rfl,h2⟩
  have HX2:=hid (HX.out.later h2)
  have HT2:=hid (z0a HT.out h2)
  have HB2:=hid (HB1.out.trans (h2.mono HB1.out.size))
  clear h2 HX HT
  clear hgd
  go_wp2_with fail
  go_ret
  rw [HE.out]
  exact z2e HB2.out
 | true =>
  rw [hg] at hgd
  have HS:Hid (∀ w',Below W.heap.size W w'→Calls Tryd.prog 39 #[.agg (pcs c.p)] w' (GivesS w' (z0l (c.p.pg L T M)))):=hid fun w' hb=>z7b c.p.pk c.p.od c.p.po c.p.lp c.p.ln c.p.lcp c.p.tp c.p.tn c.p.tcp c.p.wp c.p.wn c.p.wcp c.p.sk c.p.fr c.p.to c.p.q L T M w' (hw.later hb) (PgM.later hP hb) hok.P h1
  have hlf:=z3i hg hok.P
  obtain⟨_,g2,g3,g4,_⟩:=z1q hg
  have g3':0≤c.st:=g3
  have g4':c.st≤lenC (c.x L T M):=g4
  have hfin:=(z3d g2 hok.P).2
  have hlv:z4f (c.x L T M) t.c=z1z ((z0l (c.p.pg L T M)).take c.st.toNat)++(if c.bk=false∧c.tx≠0 then t.c.dn else []):=by
   unfold z4f
   rw [if_neg (by rw [hg];simp)]
   rfl
  have hfin':∀ s∈z0l (c.p.pg L T M),z5n s:=hfin
  obtain⟨S,hS⟩:∃ S,z0l (c.p.pg L T M)=S:=⟨_,rfl⟩
  rw [hS] at HS hlv hfin'
  obtain⟨n,hnn⟩:∃ n,S.length=n:=⟨_,rfl⟩
  have hln:lenC (c.x L T M)=(n:Int):=by
   show ((z0l (c.p.pg L T M)).length:Int)=(n:Int)
   rw [hS,hnn]
  have HN:=hid hnn
  rw [hln] at g4' hlf
  obtain⟨i,hi⟩:∃ i:Nat,c.st.toNat=i:=⟨_,rfl⟩
  have hst:c.st=(i:Int):=by omega
  have hin:i≤n:=by omega
  have hn5:n≤5:=by omega
  have hn1:1≤n:=by omega
  rw [hi] at hlv
  have HLV:=hid hlv
  have HST:=hid hst
  have HFJ:Hid (∀ j,j<n→z5n (S.getD j (0,0,[]))):=hid fun j hj=>hfin' _ (by rw [List.getD,List.getElem?_eq_getElem (by rw [hnn];exact hj)];exact List.getElem_mem _)
  have HOT:Hid (∀ j,j<n→z1z (S.take (j+1))=z1z (S.take j)++opsS (S.getD j (0,0,[])).1 (S.getD j (0,0,[])).2.1 (S.getD j (0,0,[])).2.2):=hid fun j hj=>opsAll_take S j (by rw [hnn];exact hj)
  have HOLN:Hid (∀ j,(z1z (S.take j)).length≤30):=hid fun j=>by
   have h1:=z3u (S:=S.take j) fun s hs=>(hfin' s (List.mem_of_mem_take hs)).2.2.2.2
   rw [List.length_take] at h1
   omega
  have HTM:=hid fun w' (hb:Below W.heap.size W w')=>hT.later hb
  have HTN:=hid hn
  generalize z4f (c.x L T M) t.c=LV at *
  clear hW1 hx ht hb1 hB hw hP hok h1 hT hg hS hnn hln g2 g3 g4 g3' g4' hlf hfin hfin' hlv hi hst hn
  go_enter Tryd.func24,Tryd.ntmps24
  go_upto_region 1 with (fail)
  rw [HW1.out,HRE.out]
  go_wp2_with ((with_reducible refine z0c HX.out ?_ ?_);rfl)
  refine hgd.mono ?_
  rintro e w2 ⟨rfl,h2⟩
  have HX2:=hid (HX.out.later h2)
  have HT2:=hid (z0a HT.out h2)
  have HB2:=hid (HB1.out.trans (h2.mono HB1.out.size))
  clear h2 HX HT
  clear hgd
  go_upto_region 4 with (fail)
  have hbd:Below w2.heap.size w2 w2.drew:=(Below.refl _ _).drew
  refine wp_region_held_drew (S:=fun w'=>Hid (Below w2.heap.size w2 w')) (by kernel_rfl) (hid hbd) (fun hHeld=>?_)
  clear hbd
  generalize w2.drew=Wd at *
  refine wpAnyH_take (i:=0) (oi:=⟨some 11,_,_,_,_,_⟩) (v:=.pointer (some ⟨B,1,none⟩)) rfl (by kernel_rfl) (by kernel_rfl) (by kernel_rfl) (fun _ _ _ h=>h) (Or.inl ⟨by rfl,fun w' hw'=>?_⟩) (by assumption) ?_
  · clear hHeld
    go_simp
  try simp only [Act.put,sIB,sCZ,sCS]
  refine wpAnyH_take (i:=1) (oi:=⟨some 12,_,_,_,_,_⟩) (v:=.agg (pcs c.p)) rfl (by kernel_rfl) (by kernel_rfl) (by kernel_rfl) (fun _ _ _ h=>h) (Or.inl ⟨by rfl,fun w' hw'=>z0p rfl (HX2.out.later (Hid.out hw'))⟩) (by assumption) ?_
  try simp only [Act.put,sIB,sCZ,sCS]
  refine wpAnyH_take (i:=3) (oi:=⟨some 14,_,_,_,_,_⟩) (v:=.pointer (some ⟨B,12,none⟩)) rfl (by kernel_rfl) (by kernel_rfl) (by kernel_rfl) (fun _ _ _ h=>h) (Or.inl ⟨by rfl,fun w' hw'=>?_⟩) (by assumption) ?_
  · clear hHeld
    go_simp
  try simp only [Act.put,sIB,sCZ,sCS]
  refine wpAnyH_take (i:=4) (oi:=⟨some 15,_,_,_,_,_⟩) (v:=.int .i64 (i:Int)) rfl (by kernel_rfl) (by kernel_rfl) (by kernel_rfl) (fun _ _ _ h=>h) (Or.inl ⟨by rfl,fun w' hw'=>?_⟩) (by assumption) ?_
  · have hcx:=(HX2.out.later hw'.out).at.2.2.1
    rw [HST.out] at hcx
    clear hHeld hw'
    go_simp
  try simp only [Act.put,sIB,sCZ,sCS]
  refine wpAnyH_take (i:=7) (oi:=⟨some 18,_,_,_,_,_⟩) (v:=.int .i64 0) rfl (by kernel_rfl) (by kernel_rfl) (by kernel_rfl) (fun _ _ _ h=>h) (Or.inl ⟨by rfl,fun w' hw'=>?_⟩) (by assumption) ?_
  · clear hHeld
    go_simp
  try simp only [Act.put,sIB,sCZ,sCS]
  refine wpAnyH_ready (rs:=[2]) (by kernel_rfl) (by simp) (AllReadyH.cons rfl (fun K hK=>?_) (AllReadyH.nil))
  go_simp
  go_wp2_with fail
  refine (HS.out _ (HB2.out.trans (hHeld.out.mono HB2.out.size))).mono ?_
  rintro e w3 ⟨p3,k3,H3,rfl,hs3,hb3⟩
  have hSN:Hid (Below w2.heap.size w2 w3):=hid (hHeld.out.trans (hb3.mono hHeld.out.size))
  simp only [HN.out] at hs3 ⊢
  have hcap:=hs3.row.cap
  obtain⟨b,off,rfl,_,_⟩:=hs3.row.cell hn1
  have HS3:=hid hs3
  have hik:i≤k3:=by omega
  clear hb3 hs3
  go_wp2_with fail
  refine hK.out _ _ hSN (fun hHeld2=>?_)
  try simp only [Act.put,sIB,sCZ,sCS]
  clear hSN hK K hHeld
  have hHeld:=hHeld2
  clear hHeld2
  refine wpAnyH_take (i:=5) (oi:=⟨some 16,_,_,_,_,_⟩) (v:=.slice (some ⟨b,off,none⟩) i k3) rfl (by kernel_rfl) (by kernel_rfl) (by kernel_rfl) (fun _ _ _ h=>h) (Or.inl ⟨by rfl,fun w' hw'=>?_⟩) (by assumption) ?_
  · clear hHeld
    go_simp
  try simp only [Act.put,sIB,sCZ,sCS]
  refine wpAnyH_take (i:=6) (oi:=⟨some 17,_,_,_,_,_⟩) (v:=.int .i64 (i:Int)) rfl (by kernel_rfl) (by kernel_rfl) (by kernel_rfl) (fun _ _ _ h=>h) (Or.inl ⟨by rfl,fun w' hw'=>?_⟩) (by assumption) ?_
  · clear hHeld
    go_simp
  try simp only [Act.put,sIB,sCZ,sCS]
  have h3:=hHeld.out
  refine wpAnyH_done (by kernel_rfl) ?_ _
  clear hHeld HS
  have HX3:=hid (HX2.out.later h3)
  have HT3:=hid (z0a HT2.out h3)
  have HB3:=hid (HB2.out.trans (h3.mono HB2.out.size))
  clear h3 HX2 HT2
  go_wp2_with fail
  go_loopw [5,18] (fun v ix wr=>∃ j:Nat,j≤i∧ix=.int .i64 j∧Hid (z4d w3 wr v (z1z (S.take j)) (30*j))) (fun _ ix _=>i-(Go.RowKit.intOf ix).toNat)
  case atStart=>exact⟨0,Nat.zero_le _,rfl,hid (by rw [List.take_zero];exact FillG.nil w3)⟩
  case round =>
   obtain⟨j,hj,rfl,HF⟩:=hrel
   by_cases hlt:j<i
   case pos =>
    have hlt':(j:Int)<i:=by omega
    have hjn:j<n:=by omega
    have hjz:(j:Int)<n:=by omega
    have HSA:=hid (HS3.out.later HF.out.below)
    obtain⟨b',off',heb,_,k0,k1,k2⟩:=z2r HSA.out.row hjn
    cases heb
    obtain⟨t1,t2,t3⟩:=HSA.out.tells.at j (by rw [HSA.out.row.len];exact hjn)
    have hfine:=HFJ.out j hjn
    have hst:=HOT.out j hjn
    rw [t1] at k0
    rw [t2] at k1
    generalize S.getD j (0,0,[])=sj at *
    obtain⟨ts,rs,Lq⟩:=sj
    generalize H3.getD j hs0=h3 at *
    obtain⟨y1,y2,ip,il,ic⟩:=h3
    dsimp only at k0 k1 k2 t1 t2 t3 hst
    obtain⟨f1,f2,f3,f4,f5⟩:=hfine
    dsimp only at f1 f2 f3 f4 f5
    have HS:=hid hst
    have hl1:=t3.len
    have hba:Below wr.heap.size wr (wr.alloc (.cells #[.int .u8 ts,.int .u8 rs,.slice ip il ic] 76)):=(Below.refl _ _).alloc (Nat.le_refl _) _
    have hop:=z7y ts rs ip il ic Lq (wr.alloc (.cells #[.int .u8 ts,.int .u8 rs,.slice ip il ic] 76)) (t3.later hba) f4 (by omega)
    have HOP:=hid hop
    have HBA:=hid hba
    have HLO:=hid (HOLN.out (j+1))
    rw [HS.out] at HLO
    clear hst t1 t2 t3 f1 f2 f3 f4 f5 hl1 hba hop
    go_wp2_with fail
    refine HOP.out.mono ?_
    rintro e w4 ⟨p4,c4,rfl,hs4,hb4,_⟩
    have HF4:=hid ((HF.out.later HBA.out).later hb4)
    have HS4:=hid hs4
    clear hs4 hb4 k0 k1 k2
    generalize hM:opsS ts rs Lq=MM at *
    generalize hL0:z1z (S.take j)=LL0 at *
    obtain⟨m1,hm1⟩:∃ m1,LL0.length=m1:=⟨_,rfl⟩
    obtain⟨m2,hm2⟩:∃ m2,MM.length=m2:=⟨_,rfl⟩
    have HM1:=hid hm1
    have HM2:=hid hm2
    have hmm:m1+m2≤30:=by have:=HLO.out;rw [List.length_append,hm1,hm2] at this;exact this
    simp only [hm2] at HS4 ⊢
    have HOW:Hid (w4.ownsRow 0 72 4 u5 m1 (z0q oc LL0)):=hid (by rw [← hm1];exact z1h HF4.out.own)
    clear hm1 hm2 hM hL0
    go_wp2_with (at_builtin;refine z1t rfl _ _ rfl u5 m1 LL0 rfl HOW.out p4 m2 c4 MM rfl HS4.out (m1+m2) rfl (by omega) ?_;intro p5 c5 w5 g1 g2 g3)
    have HF5:Hid (z4d w3 w5 (.slice p5 (m1+m2) c5) (LL0++MM) (30*(j+1))):=hid ⟨by
     rw [List.length_append,HM1.out,HM2.out]
     refine z3r g1 fun b hb=>?_
     rcases g3 b hb with h | h
     · exact (HF4.out.own.lt b h).1
     · exact Nat.le_trans HF4.out.below.size h,Chg.below HF4.out.below HF4.out.below.size g2 fun b hb=>(HF4.out.own.lt b hb).1,by rw [List.length_append,HM1.out,HM2.out];omega⟩
    clear g1 g2 g3
    go_roundw
    case rel=>exact⟨j+1,by omega,by go_num,hid (by rw [HS.out];exact HF5.out)⟩
    case measure=>simp [Go.RowKit.intOf];omega
   obtain rfl:i=j:=by omega
   have HX4:=hid (HX3.out.later HF.out.below)
   have HT4:=hid (z0a HT3.out HF.out.below)
   have HB4:=hid (HB3.out.trans (HF.out.below.mono HB3.out.size))
   have HOLI:=hid (HOLN.out i)
   generalize z1z (S.take i)=LL0 at *
   obtain⟨_,a11,_,_,a14⟩:=HX4.out.at
   cases hbk:c.bk with
   | true =>
    have HE:Hid (LV=LL0):=hid (by rw [HLV.out,if_neg (fun h=>by rw [hbk] at h;cases h.1),List.append_nil])
    rw [hbk] at a11
    clear HLV hbk
    go_wp2_with fail
    go_ret
    rw [HE.out]
    exact z1j (HF.out.gives z2q (by decide)) HB3.out
   | false =>
    rw [hbk] at a11
    cases q1:(c.tx != 0) with
    | false =>
     have HE:Hid (LV=LL0):=hid (by rw [HLV.out,if_neg (fun h=>by have:=bne_iff_ne.2 h.2;rw [q1] at this;cases this),List.append_nil])
     clear HLV hbk
     go_wp2_with fail
     go_ret
     rw [HE.out]
     exact z1j (HF.out.gives z2q (by decide)) HB3.out
    | true =>
     have hne:c.tx≠0:=bne_iff_ne.1 q1
     have HE:Hid (LV=LL0++t.c.dn):=hid (by rw [HLV.out,if_pos ⟨hbk,hne⟩])
     have a5:=(z0h HT4.out).2.2.2.2.2.1
     have HD4:=hid (HTM.out _ HB4.out)
     have HDL:Hid (t.c.dn.length=t.n):=hid HD4.out.len
     have hcp:=HD4.out.cap
     obtain⟨m1,hm1⟩:∃ m1,LL0.length=m1:=⟨_,rfl⟩
     have HM1:=hid hm1
     have hmm:m1+t.n≤2000:=by have:=HOLI.out;have:=HTN.out;omega
     have HOW:Hid (wr.ownsRow 0 72 4 u5 m1 (z0q oc LL0)):=hid (by rw [← hm1];exact z1h HF.out.own)
     clear HLV hbk hne hm1
     generalize t.c.dn=DN at *
     go_wp2_with (at_builtin;refine z1t rfl _ _ rfl u5 m1 LL0 rfl HOW.out t.p t.n t.m DN rfl HD4.out (m1+t.n) rfl (by omega) ?_;intro p5 c5 w5 g1 g2 g3)
     have HF5:Hid (z4d w3 w5 (.slice p5 (m1+t.n) c5) (LL0++DN) 2000):=hid ⟨by
      rw [List.length_append,HM1.out,HDL.out]
      refine z3r g1 fun b hb=>?_
      rcases g3 b hb with h | h
      · exact (HF.out.own.lt b h).1
      · exact Nat.le_trans HF.out.below.size h,Chg.below HF.out.below HF.out.below.size g2 fun b hb=>(HF.out.own.lt b hb).1,by rw [List.length_append,HM1.out,HDL.out];omega⟩
     clear g1 g2 g3 a5 a11 a14
     go_wp2_with fail
     go_ret
     rw [HE.out]
     exact z1j (HF5.out.gives z2q (by decide)) HB3.out
def rvK (X:Rx):Rv:=⟨X.k,X.sg,X.tx,X.st,X.cp,X.key.1,X.key.2.1,X.key.2.2,X.d,X.o,0,0,0,none,0,0,none,0,0,none,0,0,0,0,0,0⟩
theorem rvK_x {X:Rx} (h:X.pg=noP):(rvK X).x [] [] []=X:=by
 obtain⟨k,sg,tx,st,cp,key,d,o,pg⟩:=X
 simp only at h
 subst h
 rfl
theorem z8w (X:Rx) (w:World):RvM w (rvK X) [] [] []:=⟨SlG.empty _,SlG.empty _,SlG.empty _⟩
theorem z0u {fn:Func} {q:Tmp} (h:fn.results=#[.cell q 32]) (tmps:Array Value) (W:World) (R:Nat) (r:Rv) (hp:tmps.getD q undef=.pointer (some ⟨R,0,none⟩))
 (hB:RB W R r):(results fn tmps).run Tryd.prog W=.ok (.agg (rcs r)) W :=
 results_cell_row h tmps _ R 32 (rcs r) (0,0) _ hp hB Tryd.underlying32 rfl (by kernel_rfl)
theorem cr_undo (t:Tv) (W:World) (hT:TvM W t) (hx:∀ o∈t.c.dn,Ook o) (hn:t.n≤1000):Calls Tryd.prog 19 #[.agg #[.int .u32 t.c.id,.int .u32 t.c.sg,.int .u8 t.c.st,.bool t.c.cp,.bool t.c.dd,.slice t.p t.n t.m,.int .i64 t.c.fs,.int .i64 t.c.sz]] W fun e w'=>e=.returned (.agg (rcs (rvK (z5x t.c))))∧Below W.heap.size W w':=by
 obtain⟨W1,hW1,hxb,hz,hb1⟩:∃ W1,(W.alloc (.cells #[.int .u32 t.c.id,.int .u32 t.c.sg,.int .u8 t.c.st,.bool t.c.cp,.bool t.c.dd,.slice t.p t.n t.m,.int .i64 t.c.fs,.int .i64 t.c.sz] 36)).alloc (.cells #[.int .u8 0,.int .u32 0,.int .u32 0,.int .u8 0,.bool false,.int .u8 0,.int .u8 0,.int .u8 0,.int .i64 0,.int .u8 0,.int .u8 0,.int .u32 0,.int .u8 0,.slice none 0 0,.slice none 0 0,.slice none 0 0,.int .u8 0,.int .u8 0,.int .u8 0,.int .i64 0] 32)=W1∧W1.heap[W.heap.size]?=some (.cells #[.int .u32 t.c.id,.int .u32 t.c.sg,.int .u8 t.c.st,.bool t.c.cp,.bool t.c.dd,.slice t.p t.n t.m,.int .i64 t.c.fs,.int .i64 t.c.sz] 36 (0,0))∧RB W1 (W.heap.size+1) rz∧Below W.heap.size W W1:=by
  have hb0:Below W.heap.size W (W.alloc (.cells #[.int .u32 t.c.id,.int .u32 t.c.sg,.int .u8 t.c.st,.bool t.c.cp,.bool t.c.dd,.slice t.p t.n t.m,.int .i64 t.c.fs,.int .i64 t.c.sz] 36)):=(Below.refl _ _).alloc (Nat.le_refl _) _
  have hs:(W.alloc (.cells #[.int .u32 t.c.id,.int .u32 t.c.sg,.int .u8 t.c.st,.bool t.c.cp,.bool t.c.dd,.slice t.p t.n t.m,.int .i64 t.c.fs,.int .i64 t.c.sz] 36)).heap.size=W.heap.size+1:=by simp only [World.alloc,Array.size_push]
  have hb1:Below (W.alloc (.cells #[.int .u32 t.c.id,.int .u32 t.c.sg,.int .u8 t.c.st,.bool t.c.cp,.bool t.c.dd,.slice t.p t.n t.m,.int .i64 t.c.fs,.int .i64 t.c.sz] 36)).heap.size (W.alloc (.cells #[.int .u32 t.c.id,.int .u32 t.c.sg,.int .u8 t.c.st,.bool t.c.cp,.bool t.c.dd,.slice t.p t.n t.m,.int .i64 t.c.fs,.int .i64 t.c.sz] 36)) ((W.alloc (.cells #[.int .u32 t.c.id,.int .u32 t.c.sg,.int .u8 t.c.st,.bool t.c.cp,.bool t.c.dd,.slice t.p t.n t.m,.int .i64 t.c.fs,.int .i64 t.c.sz] 36)).alloc (.cells #[.int .u8 0,.int .u32 0,.int .u32 0,.int .u8 0,.bool false,.int .u8 0,.int .u8 0,.int .u8 0,.int .i64 0,.int .u8 0,.int .u8 0,.int .u32 0,.int .u8 0,.slice none 0 0,.slice none 0 0,.slice none 0 0,.int .u8 0,.int .u8 0,.int .u8 0,.int .i64 0] 32)):=(Below.refl _ _).alloc (Nat.le_refl _) _
  refine⟨_,rfl,z0a (z0d W _) hb1,?_,hb0.trans (hb1.mono hb0.size)⟩
  have h:=RB.new (W.alloc (.cells #[.int .u32 t.c.id,.int .u32 t.c.sg,.int .u8 t.c.st,.bool t.c.cp,.bool t.c.dd,.slice t.p t.n t.m,.int .i64 t.c.fs,.int .i64 t.c.sz] 36)) rz
  rw [hs] at h
  exact h
 obtain⟨B,hB⟩:∃ B,W.heap.size=B:=⟨_,rfl⟩
 rw [hB] at hxb hz
 have HX:=hid hxb
 have HZ:=hid hz
 have HW1:=hid hW1
 have HB1:=hid hb1
 have HRE:=hid hB
 have hla:=jlast_any t W1 (hT.later hb1) hx (by omega)
 have HU:Hid (z5x t.c=if (z2s t.c).2 then recK 6 0 t.c.id 0 false (z2s t.c).1.1 (z2s t.c).1.2 0 else recK 7 0 t.c.id 0 false (0,0,0) 0 0):=hid rfl
 generalize z5x t.c=U at *
 obtain⟨lc,hlc⟩:∃ lc,z2s t.c=lc:=⟨_,rfl⟩
 rw [hlc] at hla HU
 obtain⟨⟨⟨ka,kb,kc⟩,d⟩,b⟩:=lc
 dsimp only at hla
 obtain⟨a0,a1,a2,a3,a4,a5,a6,a7⟩:=z0h hxb
 clear hW1 hxb hz hb1 hB hT hx hn hlc
 go_enter Tryd.func19,Tryd.ntmps19
 go_upto_region 1 with (fail)
 rw [HW1.out,HRE.out]
 go_wp2_with fail
 refine hla.mono ?_
 rintro e w2 ⟨rfl,h2⟩
 have hba:Below w2.heap.size w2 (w2.alloc (.cells #[.int .u8 ka,.int .u8 kb,.int .u8 kc,.int .i64 d] 72)):=(Below.refl _ _).alloc (Nat.le_refl _) _
 have HZ3:=hid ((HZ.out.later h2).later hba)
 have hb2:=HB1.out.trans (h2.mono HB1.out.size)
 have HB3:=hid (hb2.trans (hba.mono hb2.size))
 have hx3:=z0a (z0a HX.out h2) hba
 have ho3:=z0d w2 (.cells #[.int .u8 ka,.int .u8 kb,.int .u8 kc,.int .i64 d] 72)
 obtain⟨G,hG⟩:∃ G,w2.heap.size=G:=⟨_,rfl⟩
 rw [hG] at ho3
 have HG:=hid hG
 clear a0 a1 a2 a3 a4 a5 a6 a7 h2 hba hb2 hla hG HX HZ
 go_upto_region 2 with (fail)
 rw [HG.out]
 generalize w2.alloc (.cells #[.int .u8 ka,.int .u8 kb,.int .u8 kc,.int .i64 d] 72)=w3 at *
 have a0:=(z0h hx3).1
 have o0:=z0b (j:=0) ho3 (v:=.int .u8 ka) rfl
 have o1:=z0b (j:=1) ho3 (v:=.int .u8 kb) rfl
 have o2:=z0b (j:=2) ho3 (v:=.int .u8 kc) rfl
 have o3:=z0b (j:=3) ho3 (v:=.int .i64 d) rfl
 clear hx3 ho3
 cases b
 · have HE:Hid (U=recK 7 0 t.c.id 0 false (0,0,0) 0 0):=hid HU.out
   clear HU
   go_wp2_with ((with_reducible refine z0g (rvK (recK 7 0 t.c.id 0 false (0,0,0) 0 0)) HZ3.out ?_ ?_ ?_);rfl;rfl)
   (try simp only [Exit.inBlock,Exit.then])
   refine bodyPost_ret (v:=.agg (rcs (rvK (recK 7 0 t.c.id 0 false (0,0,0) 0 0)))) ?_ rfl ⟨by rw [HE.out],below_setRow HB3.out (by have:=HRE.out;omega) _⟩
   exact z0u rfl _ _ (B+1) _ rfl (HZ3.out.set _)
 · have HE:Hid (U=recK 6 0 t.c.id 0 false (ka,kb,kc) d 0):=hid HU.out
   clear HU
   go_wp2_with ((with_reducible refine z0g (rvK (recK 6 0 t.c.id 0 false (ka,kb,kc) d 0)) HZ3.out ?_ ?_ ?_);rfl;rfl)
   (try simp only [Exit.inBlock,Exit.then])
   refine bodyPost_ret (v:=.agg (rcs (rvK (recK 6 0 t.c.id 0 false (ka,kb,kc) d 0)))) ?_ rfl ⟨by rw [HE.out],below_setRow HB3.out (by have:=HRE.out;omega) _⟩
   exact z0u rfl _ _ (B+1) _ rfl (HZ3.out.set _)
end Go.Proofs.YtnpjpelbcmgodaaDoor
