import Derived.Test.YtnpjpelbcmgodaaDoorPE99
import Derived.Test.YtnpjpelbcmgodaaDoorPE37
import Derived.Test.YtnpjpelbcmgodaaDoorPE43
namespace Go.Proofs.YtnpjpelbcmgodaaDoor
open Go.Lib (hid)
set_option maxHeartbeats 16000000
open Go.RowKit Go.ChangeShapes Go.WideShapes
set_option linter.unusedVariables false
set_option linter.unusedSimpArgs false
set_option maxRecDepth 10000
theorem cr_rlive (c:Cv) (L:List Ln) (T:List Tk) (M:List Ln) (W:World) (hP:CvM W c L T M) (hok:Crok (c.x L T M)) (h1:c.p.ln≤400∧c.p.tn≤400∧c.p.wn≤400) (t:Tv) (hT:TvM W t) (hn:t.n≤1000):Calls Tryd.prog 25 #[.agg (ccs c),.agg #[.int .u32 t.c.id,.int .u32 t.c.sg,.int .u8 t.c.st,.bool t.c.cp,.bool t.c.dd,.slice t.p t.n t.m,.int .i64 t.c.fs,.int .i64 t.c.sz]] W (z2n W (z4f (c.x L T M) t.c)):=by
 obtain⟨W1,hW1,hx,ht,hb1⟩:=z5w W c t
 obtain⟨B,hB⟩:∃ B,W.heap.size=B:=⟨_,rfl⟩
 rw [hB] at hx ht
 have HX:=hid hx
 have HT:=hid ht
 have HW1:=hid hW1
 have HB1:=hid hb1
 have HRE:=hid hB
 have hgd:=z6d c L T M W1 (PgM.later hP hb1) hok h1
 cases hg:z2d (c.x L T M) with
 | false =>
  rw [hg] at hgd
  have HE:Hid (z4f (c.x L T M) t.c=[]):=hid (by unfold z4f;rw [if_pos hg])
  generalize z4f (c.x L T M) t.c=LV at *
  clear hW1 hx ht hb1 hB hP hok h1 hT hn hg
  go_enter Tryd.func25,Tryd.ntmps25
  go_upto_region 1 with (fail)
  rw [HW1.out,HRE.out]
  go_wp2_with ((with_reducible refine z0c HX.out ?_ ?_);rfl)
  refine hgd.mono ?_
  rintro e w2 ⟨rfl,h2⟩
  have HX2:=hid (HX.out.later h2)
  have HT2:=hid (z0a HT.out h2)
  have HB2:=hid (HB1.out.trans (h2.mono HB1.out.size))
  clear h2 HX HT
  clear hgd
  go_wp2_with fail
  go_ret
  rw [HE.out]
  exact z2e HB2.out
 | true =>
  rw [hg] at hgd
  have HS:Hid (∀ w',Below W.heap.size W w'→Calls Tryd.prog 41 #[.agg (pcs c.p)] w' (GivesS w' (z0l (c.p.pg L T M)))):=hid fun w' hb=>z5z c.p.pk c.p.od c.p.po c.p.lp c.p.ln c.p.lcp c.p.tp c.p.tn c.p.tcp c.p.wp c.p.wn c.p.wcp c.p.sk c.p.fr c.p.to c.p.q L T M w' (PgM.later hP hb) hok.P ⟨by omega,by omega,by omega⟩
  have hlf:=z3i hg hok.P
  obtain⟨_,g2,g3,g4,_⟩:=z1q hg
  have g3':0≤c.st:=g3
  have g4':c.st≤lenC (c.x L T M):=g4
  have hfin:=(z3d g2 hok.P).2
  have hlv:z4f (c.x L T M) t.c=z1z ((z0l (c.p.pg L T M)).take c.st.toNat)++(if c.bk=false∧c.tx≠0 then t.c.dn else []):=by
   unfold z4f
   rw [if_neg (by rw [hg];simp)]
   rfl
  have hfin':∀ s∈z0l (c.p.pg L T M),z5n s:=hfin
  obtain⟨S,hS⟩:∃ S,z0l (c.p.pg L T M)=S:=⟨_,rfl⟩
  rw [hS] at HS hlv hfin'
  obtain⟨n,hnn⟩:∃ n,S.length=n:=⟨_,rfl⟩
  have hln:lenC (c.x L T M)=(n:Int):=by
   show ((z0l (c.p.pg L T M)).length:Int)=(n:Int)
   rw [hS,hnn]
  have HN:=hid hnn
  rw [hln] at g4' hlf
  obtain⟨i,hi⟩:∃ i:Nat,c.st.toNat=i:=⟨_,rfl⟩
  have hst:c.st=(i:Int):=by omega
  have hin:i≤n:=by omega
  have hn5:n≤5:=by omega
  have hn1:1≤n:=by omega
  rw [hi] at hlv
  have HLV:=hid hlv
  have HST:=hid hst
  have HFJ:Hid (∀ j,j<n→z5n (S.getD j (0,0,[]))):=hid fun j hj=>hfin' _ (by rw [List.getD,List.getElem?_eq_getElem (by rw [hnn];exact hj)];exact List.getElem_mem _)
  have HOT:Hid (∀ j,j<n→z1z (S.take (j+1))=z1z (S.take j)++opsS (S.getD j (0,0,[])).1 (S.getD j (0,0,[])).2.1 (S.getD j (0,0,[])).2.2):=hid fun j hj=>opsAll_take S j (by rw [hnn];exact hj)
  have HOLN:Hid (∀ j,(z1z (S.take j)).length≤30):=hid fun j=>by
   have h1:=z3u (S:=S.take j) fun s hs=>(hfin' s (List.mem_of_mem_take hs)).2.2.2.2
   rw [List.length_take] at h1
   omega
  have HTM:=hid fun w' (hb:Below W.heap.size W w')=>hT.later hb
  have HTN:=hid hn
  generalize z4f (c.x L T M) t.c=LV at *
  clear hW1 hx ht hb1 hB hP hok h1 hT hg hS hnn hln g2 g3 g4 g3' g4' hlf hfin hfin' hlv hi hst hn
  go_enter Tryd.func25,Tryd.ntmps25
  go_upto_region 1 with (fail)
  rw [HW1.out,HRE.out]
  go_wp2_with ((with_reducible refine z0c HX.out ?_ ?_);rfl)
  refine hgd.mono ?_
  rintro e w2 ⟨rfl,h2⟩
  have HX2:=hid (HX.out.later h2)
  have HT2:=hid (z0a HT.out h2)
  have HB2:=hid (HB1.out.trans (h2.mono HB1.out.size))
  clear h2 HX HT
  clear hgd
  go_wp2_with ((with_reducible refine z1e HX2.out ?_ ?_);rfl)
  refine (HS.out _ HB2.out).mono ?_
  rintro e w3 ⟨p3,k3,H3,rfl,hs3,h3⟩
  simp only [HN.out] at hs3 ⊢
  have hcap:=hs3.row.cap
  obtain⟨b,off,rfl,_,_⟩:=hs3.row.cell hn1
  have HS3:=hid hs3
  clear hs3 HS
  have HX3:=hid (HX2.out.later h3)
  have HT3:=hid (z0a HT2.out h3)
  have HB3:=hid (HB2.out.trans (h3.mono HB2.out.size))
  clear h3 HX2 HT2
  go_wp2_with fail
  go_loopw [6,7] (fun v ix wr=>∃ j:Nat,j≤i∧ix=.int .i64 j∧Hid (z4d w3 wr v (z1z (S.take j)) (30*j))) (fun _ ix _=>i-(Go.RowKit.intOf ix).toNat)
  case atStart=>exact⟨0,Nat.zero_le _,rfl,hid (by rw [List.take_zero];exact FillG.nil w3)⟩
  case round =>
   obtain⟨j,hj,rfl,HF⟩:=hrel
   have c12:=(HX3.out.later HF.out.below).at.2.2.1
   rw [HST.out] at c12
   by_cases hlt:j<i
   case pos =>
    have hlt':(j:Int)<i:=by omega
    have hjn:j<n:=by omega
    have hjz:(j:Int)<n:=by omega
    have HSA:=hid (HS3.out.later HF.out.below)
    obtain⟨b',off',heb,_,k0,k1,k2⟩:=z2r HSA.out.row hjn
    cases heb
    obtain⟨t1,t2,t3⟩:=HSA.out.tells.at j (by rw [HSA.out.row.len];exact hjn)
    have hfine:=HFJ.out j hjn
    have hst:=HOT.out j hjn
    rw [t1] at k0
    rw [t2] at k1
    generalize S.getD j (0,0,[])=sj at *
    obtain⟨ts,rs,Lq⟩:=sj
    generalize H3.getD j hs0=h3 at *
    obtain⟨y1,y2,ip,il,ic⟩:=h3
    dsimp only at k0 k1 k2 t1 t2 t3 hst
    obtain⟨f1,f2,f3,f4,f5⟩:=hfine
    dsimp only at f1 f2 f3 f4 f5
    have HS:=hid hst
    have hl1:=t3.len
    have hba:Below wr.heap.size wr (wr):=Below.refl _ _
    have hop:=z5r ts rs ip il ic Lq (wr) (t3.later hba) f4 (by omega)
    have HOP:=hid hop
    have HBA:=hid hba
    have HLO:=hid (HOLN.out (j+1))
    rw [HS.out] at HLO
    clear hst t1 t2 t3 f1 f2 f3 f4 f5 hl1 hba hop
    go_wp2_with fail
    refine HOP.out.mono ?_
    rintro e w4 ⟨p4,c4,rfl,hs4,hb4,_⟩
    have HF4:=hid ((HF.out.later HBA.out).later hb4)
    have HS4:=hid hs4
    clear hs4 hb4 k0 k1 k2
    generalize hM:opsS ts rs Lq=MM at *
    generalize hL0:z1z (S.take j)=LL0 at *
    obtain⟨m1,hm1⟩:∃ m1,LL0.length=m1:=⟨_,rfl⟩
    obtain⟨m2,hm2⟩:∃ m2,MM.length=m2:=⟨_,rfl⟩
    have HM1:=hid hm1
    have HM2:=hid hm2
    have hmm:m1+m2≤30:=by have:=HLO.out;rw [List.length_append,hm1,hm2] at this;exact this
    simp only [hm2] at HS4 ⊢
    have HOW:Hid (w4.ownsRow 0 72 4 u6 m1 (z0q oc LL0)):=hid (by rw [← hm1];exact z1h HF4.out.own)
    clear hm1 hm2 hM hL0
    go_wp2_with (at_builtin;refine z1t rfl _ _ rfl u6 m1 LL0 rfl HOW.out p4 m2 c4 MM rfl HS4.out (m1+m2) rfl (by omega) ?_;intro p5 c5 w5 g1 g2 g3)
    have HF5:Hid (z4d w3 w5 (.slice p5 (m1+m2) c5) (LL0++MM) (30*(j+1))):=hid ⟨by
     rw [List.length_append,HM1.out,HM2.out]
     refine z3r g1 fun b hb=>?_
     rcases g3 b hb with h | h
     · exact (HF4.out.own.lt b h).1
     · exact Nat.le_trans HF4.out.below.size h,Chg.below HF4.out.below HF4.out.below.size g2 fun b hb=>(HF4.out.own.lt b hb).1,by rw [List.length_append,HM1.out,HM2.out];omega⟩
    clear g1 g2 g3
    go_roundw
    case rel=>exact⟨j+1,by omega,by go_num,hid (by rw [HS.out];exact HF5.out)⟩
    case measure=>simp [Go.RowKit.intOf];omega
   obtain rfl:i=j:=by omega
   have HX4:=hid (HX3.out.later HF.out.below)
   have HT4:=hid (z0a HT3.out HF.out.below)
   have HB4:=hid (HB3.out.trans (HF.out.below.mono HB3.out.size))
   have HOLI:=hid (HOLN.out i)
   generalize z1z (S.take i)=LL0 at *
   obtain⟨_,a11,_,_,a14⟩:=HX4.out.at
   cases hbk:c.bk with
   | true =>
    have HE:Hid (LV=LL0):=hid (by rw [HLV.out,if_neg (fun h=>by rw [hbk] at h;cases h.1),List.append_nil])
    rw [hbk] at a11
    clear HLV hbk
    go_wp2_with fail
    go_ret
    rw [HE.out]
    exact z1j (HF.out.gives z2q (by decide)) HB3.out
   | false =>
    rw [hbk] at a11
    cases q1:(c.tx != 0) with
    | false =>
     have HE:Hid (LV=LL0):=hid (by rw [HLV.out,if_neg (fun h=>by have:=bne_iff_ne.2 h.2;rw [q1] at this;cases this),List.append_nil])
     clear HLV hbk
     go_wp2_with fail
     go_ret
     rw [HE.out]
     exact z1j (HF.out.gives z2q (by decide)) HB3.out
    | true =>
     have hne:c.tx≠0:=bne_iff_ne.1 q1
     have HE:Hid (LV=LL0++t.c.dn):=hid (by rw [HLV.out,if_pos ⟨hbk,hne⟩])
     have a5:=(z0h HT4.out).2.2.2.2.2.1
     have HD4:=hid (HTM.out _ HB4.out)
     have HDL:Hid (t.c.dn.length=t.n):=hid HD4.out.len
     have hcp:=HD4.out.cap
     obtain⟨m1,hm1⟩:∃ m1,LL0.length=m1:=⟨_,rfl⟩
     have HM1:=hid hm1
     have hmm:m1+t.n≤2000:=by have:=HOLI.out;have:=HTN.out;omega
     have HOW:Hid (wr.ownsRow 0 72 4 u6 m1 (z0q oc LL0)):=hid (by rw [← hm1];exact z1h HF.out.own)
     clear HLV hbk hne hm1
     generalize t.c.dn=DN at *
     go_wp2_with (at_builtin;refine z1t rfl _ _ rfl u6 m1 LL0 rfl HOW.out t.p t.n t.m DN rfl HD4.out (m1+t.n) rfl (by omega) ?_;intro p5 c5 w5 g1 g2 g3)
     have HF5:Hid (z4d w3 w5 (.slice p5 (m1+t.n) c5) (LL0++DN) 2000):=hid ⟨by
      rw [List.length_append,HM1.out,HDL.out]
      refine z3r g1 fun b hb=>?_
      rcases g3 b hb with h | h
      · exact (HF.out.own.lt b h).1
      · exact Nat.le_trans HF.out.below.size h,Chg.below HF.out.below HF.out.below.size g2 fun b hb=>(HF.out.own.lt b hb).1,by rw [List.length_append,HM1.out,HDL.out];omega⟩
     clear g1 g2 g3 a5 a11 a14
     go_wp2_with fail
     go_ret
     rw [HE.out]
     exact z1j (HF5.out.gives z2q (by decide)) HB3.out
theorem opp_wrap (d:Int) (h:In64 d):IntKind.i64.wrap (-d)=(oppO ((0,0,0),d)).2:=by
 unfold oppO
 unfold In64 at h
 by_cases h1:d = -9223372036854775808
 · simp only [h1,if_pos];decide
 · simp only [if_neg h1]
   exact IntWalk.i64_in _ (by omega)
def opps (L:List O):List O:=L.map oppO
theorem opps_step (L:List O) (j:Nat) (h:j<L.length):opps (L.take (j+1))=opps (L.take j) ++ [oppO (L.getD j o0)]:=by
 unfold opps
 rw [List.take_add_one,List.getElem?_eq_getElem h,List.map_append]
 simp [List.getD,List.getElem?_eq_getElem h]
theorem cr_taken (c:Cv) (L:List Ln) (T:List Tk) (M:List Ln) (W:World) (hw:Words W) (hP:CvM W c L T M) (hok:Crok (c.x L T M)) (h1:c.p.ln≤400∧c.p.tn≤400∧c.p.wn≤400) (t:Tv) (hT:TvM W t) (hn:t.n≤1000) (hok2:∀ o∈t.c.dn,Ook o):Calls Tryd.prog 26 #[.agg (ccs c),.agg #[.int .u32 t.c.id,.int .u32 t.c.sg,.int .u8 t.c.st,.bool t.c.cp,.bool t.c.dd,.slice t.p t.n t.m,.int .i64 t.c.fs,.int .i64 t.c.sz]] W (z2n W (z4s (c.x L T M) t.c)):=by
 obtain⟨W1,hW1,hx,ht,hb1⟩:=z5w W c t
 obtain⟨B,hB⟩:∃ B,W.heap.size=B:=⟨_,rfl⟩
 rw [hB] at hx ht
 have HX:=hid hx
 have HT:=hid ht
 have HW1:=hid hW1
 have HB1:=hid hb1
 have HRE:=hid hB
 have hgd:=z6r c L T M W1 (hw.later hb1) (PgM.later hP hb1) hok h1
 have HTK:Hid (z4s (c.x L T M) t.c=if z2d (c.x L T M)=false∨c.bk=false∨c.tx=0 then [] else t.c.dn.map oppO):=hid rfl
 have HD1:=hid (hT.later hb1)
 have HDL:Hid (t.c.dn.length=t.n):=hid hT.len
 have HOK:Hid (∀ j,j<t.n→Ook (t.c.dn.getD j o0)):=hid fun j hj=>hok2 _ (by rw [List.getD,List.getElem?_eq_getElem (by rw [hT.len];exact hj)];exact List.getElem_mem _)
 have HTN:=hid hn
 have hcap:=hT.cap
 generalize z4s (c.x L T M) t.c=TKN at *
 obtain⟨g,hg⟩:∃ g,z2d (c.x L T M)=g:=⟨_,rfl⟩
 rw [hg] at hgd HTK
 clear hW1 hx ht hb1 hB hw hP hok h1 hT hn hok2 hg
 cases g with
 | false =>
  have HE:Hid (TKN=[]):=hid (by rw [HTK.out,if_pos (.inl rfl)])
  clear HTK
  go_enter Tryd.func26,Tryd.ntmps26
  go_upto_region 1 with (fail)
  rw [HW1.out,HRE.out]
  go_wp2_with ((with_reducible refine z0c HX.out ?_ ?_);rfl)
  refine hgd.mono ?_
  rintro e w2 ⟨rfl,h2⟩
  have HBG:=hid h2
  have HX2:=hid (HX.out.later h2)
  have HT2:=hid (z0a HT.out h2)
  have HB2:=hid (HB1.out.trans (h2.mono HB1.out.size))
  clear h2 HX HT
  clear hgd
  go_wp2_with fail
  go_ret
  rw [HE.out]
  exact z2e HB2.out
 | true =>
  cases hbk:c.bk with
  | false =>
   have HE:Hid (TKN=[]):=hid (by rw [HTK.out,if_pos (.inr (.inl hbk))])
   have HBK:=hid hbk
   clear HTK hbk
   go_enter Tryd.func26,Tryd.ntmps26
   go_upto_region 1 with (fail)
   rw [HW1.out,HRE.out]
   go_wp2_with ((with_reducible refine z0c HX.out ?_ ?_);rfl)
   refine hgd.mono ?_
   rintro e w2 ⟨rfl,h2⟩
   have HBG:=hid h2
   have HX2:=hid (HX.out.later h2)
   have HT2:=hid (z0a HT.out h2)
   have HB2:=hid (HB1.out.trans (h2.mono HB1.out.size))
   clear h2 HX HT
   clear hgd
   have a11:=HX2.out.at.2.1
   rw [HBK.out] at a11
   go_wp2_with fail
   go_ret
   rw [HE.out]
   exact z2e HB2.out
  | true =>
   cases q1:(c.tx==0) with
   | true =>
    have HE:Hid (TKN=[]):=hid (by rw [HTK.out,if_pos (.inr (.inr (by simpa using q1)))])
    have HBK:=hid hbk
    clear HTK hbk
    go_enter Tryd.func26,Tryd.ntmps26
    go_upto_region 1 with (fail)
    rw [HW1.out,HRE.out]
    go_wp2_with ((with_reducible refine z0c HX.out ?_ ?_);rfl)
    refine hgd.mono ?_
    rintro e w2 ⟨rfl,h2⟩
    have HBG:=hid h2
    have HX2:=hid (HX.out.later h2)
    have HT2:=hid (z0a HT.out h2)
    have HB2:=hid (HB1.out.trans (h2.mono HB1.out.size))
    clear h2 HX HT
    clear hgd
    obtain⟨_,a11,_,_,a14⟩:=HX2.out.at
    rw [HBK.out] at a11
    go_wp2_with fail
    go_ret
    rw [HE.out]
    exact z2e HB2.out
   | false =>
    have HE:Hid (TKN=t.c.dn.map oppO):=hid (by
     rw [HTK.out,if_neg]
     rintro (h | h | h)
     · cases h
     · rw [hbk] at h;cases h
     · simp [h] at q1)
    have HBK:=hid hbk
    clear HTK hbk
    go_enter Tryd.func26,Tryd.ntmps26
    go_upto_region 1 with (fail)
    rw [HW1.out,HRE.out]
    go_wp2_with ((with_reducible refine z0c HX.out ?_ ?_);rfl)
    refine hgd.mono ?_
    rintro e w2 ⟨rfl,h2⟩
    have HBG:=hid h2
    have HX2:=hid (HX.out.later h2)
    have HT2:=hid (z0a HT.out h2)
    have HB2:=hid (HB1.out.trans (h2.mono HB1.out.size))
    clear h2 HX HT
    clear hgd
    obtain⟨_,a11,_,_,a14⟩:=HX2.out.at
    rw [HBK.out] at a11
    have a5:=(z0h HT2.out).2.2.2.2.2.1
    have HD2:Hid (OL w2 t.p t.n t.m t.c.dn):=hid (HD1.out.later (show Below W1.heap.size W1 w2 from HBG.out))
    have HST:=hid fun j (hj:j<t.n)=>opps_step t.c.dn j (by rw [HDL.out];exact hj)
    have HEND:Hid (opps (t.c.dn.take t.n)=t.c.dn.map oppO):=hid (by rw [← HDL.out,List.take_length];rfl)
    have HLN:=HDL
    generalize t.c.dn=DN at *
    generalize t.p=tp at *
    clear HD1
    go_wp2_with fail
    go_loopw [5,24] (fun v ix wr=>∃ j:Nat,j≤t.n∧ix=.int .i64 j∧Hid (z4d w2 wr v (opps (DN.take j)) j)) (fun _ ix _=>t.n-(Go.RowKit.intOf ix).toNat)
    case atStart=>exact⟨0,Nat.zero_le _,rfl,hid (by rw [List.take_zero];exact FillG.nil w2)⟩
    case round =>
     obtain⟨j,hj,rfl,HF⟩:=hrel
     by_cases hlt:j<t.n
     case pos =>
      have hlt':(j:Int)<(t.n:Int):=by omega
      obtain⟨b,off,rfl,_,k0,k1,k2,k3⟩:=z2b (HD2.out.later HF.out.below) hlt
      have hst:=HST.out j hlt
      have hok:=HOK.out j hlt
      generalize DN.getD j o0=oo at *
      obtain⟨⟨ka,kb,kc⟩,d⟩:=oo
      dsimp only at k0 k1 k2 k3
      obtain⟨y,hy,hyn⟩:∃ y,oppO ((ka,kb,kc),d)=((ka,kb,kc),y)∧IntKind.i64.wrap (-d)=y:=⟨(oppO ((0,0,0),d)).2,rfl,opp_wrap d hok.2⟩
      rw [hy] at hst
      have HS:=hid hst
      have hmost:=HF.out.most
      have hsz:=HF.out.below.size
      have htn:t.n≤1000:=HTN.out
      have HLL:Hid ((opps (DN.take j)).length=j):=hid <| by
       have:=HLN.out
       rw [opps,List.length_map,List.length_take,this]
       omega
      clear hst hok hy
      have hba:Below wr.heap.size wr (wr.alloc (.cells #[.int .u8 ka,.int .u8 kb,.int .u8 kc,.int .i64 d] 72)):=(Below.refl _ _).alloc (Nat.le_refl _) _
      have hfa:=HF.out.later hba
      have ho:=z0d wr (.cells #[.int .u8 ka,.int .u8 kb,.int .u8 kc,.int .i64 d] 72)
      have hVs:=hba.size
      go_upto_region 7 with (fail)
      clear k0 k1 k2 k3 hba
      generalize wr.heap.size=Gw at *
      generalize wr.alloc (.cells #[.int .u8 ka,.int .u8 kb,.int .u8 kc,.int .i64 d] 72)=V at *
      have HFA:=hid hfa
      have q0:=z0b (j:=0) ho (v:=.int .u8 ka) rfl
      have q1:=z0b (j:=1) ho (v:=.int .u8 kb) rfl
      have q2:=z0b (j:=2) ho (v:=.int .u8 kc) rfl
      have q3:=z0b (j:=3) ho (v:=.int .i64 d) rfl
      clear ho hfa
      have hsv:=HFA.out.below.size
      go_wp2_with (at_builtin;refine wpList_append_o rfl _ _ rfl w2.heap.size _ (opps (DN.take j)).length (opps (DN.take j)) rfl (HFA.out.own.alloc _) (by have:=HTN.out;have:=HLL.out;omega) ((ka,kb,kc),y) V.heap.size rfl (op_news V ((ka,kb,kc),y)) (by simp;omega) ?_;intro v2 w4 g1 g2)
      have HF2:=hid (HFA.out.step _ g1 g2)
      clear g1 g2 hsz hmost hsv hVs q0 q1 q2 q3
      go_wp2_with fail
      go_roundw
      case rel=>exact⟨j+1,by omega,by go_num,hid (by rw [HS.out];exact HF2.out)⟩
      case measure=>simp [Go.RowKit.intOf];omega
     have hjn:j=t.n:=by omega
     subst hjn
     go_wp2_with fail
     go_ret
     rw [HE.out,← HEND.out]
     exact z1j (HF.out.gives z2q (by decide)) HB2.out
theorem cr_rtaken (c:Cv) (L:List Ln) (T:List Tk) (M:List Ln) (W:World) (hP:CvM W c L T M) (hok:Crok (c.x L T M)) (h1:c.p.ln≤400∧c.p.tn≤400∧c.p.wn≤400) (t:Tv) (hT:TvM W t) (hn:t.n≤1000) (hok2:∀ o∈t.c.dn,Ook o):Calls Tryd.prog 27 #[.agg (ccs c),.agg #[.int .u32 t.c.id,.int .u32 t.c.sg,.int .u8 t.c.st,.bool t.c.cp,.bool t.c.dd,.slice t.p t.n t.m,.int .i64 t.c.fs,.int .i64 t.c.sz]] W (z2n W (z4s (c.x L T M) t.c)):=by
 obtain⟨W1,hW1,hx,ht,hb1⟩:=z5w W c t
 obtain⟨B,hB⟩:∃ B,W.heap.size=B:=⟨_,rfl⟩
 rw [hB] at hx ht
 have HX:=hid hx
 have HT:=hid ht
 have HW1:=hid hW1
 have HB1:=hid hb1
 have HRE:=hid hB
 have hgd:=z6d c L T M W1 (PgM.later hP hb1) hok h1
 have HTK:Hid (z4s (c.x L T M) t.c=if z2d (c.x L T M)=false∨c.bk=false∨c.tx=0 then [] else t.c.dn.map oppO):=hid rfl
 have HD1:=hid (hT.later hb1)
 have HDL:Hid (t.c.dn.length=t.n):=hid hT.len
 have HOK:Hid (∀ j,j<t.n→Ook (t.c.dn.getD j o0)):=hid fun j hj=>hok2 _ (by rw [List.getD,List.getElem?_eq_getElem (by rw [hT.len];exact hj)];exact List.getElem_mem _)
 have HTN:=hid hn
 have hcap:=hT.cap
 generalize z4s (c.x L T M) t.c=TKN at *
 obtain⟨g,hg⟩:∃ g,z2d (c.x L T M)=g:=⟨_,rfl⟩
 rw [hg] at hgd HTK
 clear hW1 hx ht hb1 hB hP hok h1 hT hn hok2 hg
 cases g with
 | false =>
  have HE:Hid (TKN=[]):=hid (by rw [HTK.out,if_pos (.inl rfl)])
  clear HTK
  go_enter Tryd.func27,Tryd.ntmps27
  go_upto_region 2 with (fail)
  rw [HW1.out,HRE.out]
  go_wp2_with ((with_reducible refine z0c HX.out ?_ ?_);rfl)
  refine hgd.mono ?_
  rintro e w2 ⟨rfl,h2⟩
  have HBG:=hid h2
  have HX2:=hid (HX.out.later h2)
  have HT2:=hid (z0a HT.out h2)
  have HB2:=hid (HB1.out.trans (h2.mono HB1.out.size))
  clear h2 HX HT
  clear hgd
  go_wp2_with fail
  go_ret
  rw [HE.out]
  exact z2e HB2.out
 | true =>
  cases hbk:c.bk with
  | false =>
   have HE:Hid (TKN=[]):=hid (by rw [HTK.out,if_pos (.inr (.inl hbk))])
   have HBK:=hid hbk
   clear HTK hbk
   go_enter Tryd.func27,Tryd.ntmps27
   go_upto_region 2 with (fail)
   rw [HW1.out,HRE.out]
   go_wp2_with ((with_reducible refine z0c HX.out ?_ ?_);rfl)
   refine hgd.mono ?_
   rintro e w2 ⟨rfl,h2⟩
   have HBG:=hid h2
   have HX2:=hid (HX.out.later h2)
   have HT2:=hid (z0a HT.out h2)
   have HB2:=hid (HB1.out.trans (h2.mono HB1.out.size))
   clear h2 HX HT
   clear hgd
   have a11:=HX2.out.at.2.1
   rw [HBK.out] at a11
   go_wp2_with fail
   go_ret
   rw [HE.out]
   exact z2e HB2.out
  | true =>
   cases q1:(c.tx==0) with
   | true =>
    have HE:Hid (TKN=[]):=hid (by rw [HTK.out,if_pos (.inr (.inr (by simpa using q1)))])
    have HBK:=hid hbk
    clear HTK hbk
    go_enter Tryd.func27,Tryd.ntmps27
    go_upto_region 2 with (fail)
    rw [HW1.out,HRE.out]
    go_wp2_with ((with_reducible refine z0c HX.out ?_ ?_);rfl)
    refine hgd.mono ?_
    rintro e w2 ⟨rfl,h2⟩
    have HBG:=hid h2
    have HX2:=hid (HX.out.later h2)
    have HT2:=hid (z0a HT.out h2)
    have HB2:=hid (HB1.out.trans (h2.mono HB1.out.size))
    clear h2 HX HT
    clear hgd
    obtain⟨_,a11,_,_,a14⟩:=HX2.out.at
    rw [HBK.out] at a11
    go_wp2_with fail
    go_ret
    rw [HE.out]
    exact z2e HB2.out
   | false =>
    have HE:Hid (TKN=t.c.dn.map oppO):=hid (by
     rw [HTK.out,if_neg]
     rintro (h | h | h)
     · cases h
     · rw [hbk] at h;cases h
     · simp [h] at q1)
    have HBK:=hid hbk
    clear HTK hbk
    go_enter Tryd.func27,Tryd.ntmps27
    go_upto_region 2 with (fail)
    rw [HW1.out,HRE.out]
    go_wp2_with ((with_reducible refine z0c HX.out ?_ ?_);rfl)
    refine hgd.mono ?_
    rintro e w2 ⟨rfl,h2⟩
    have HBG:=hid h2
    have HX2:=hid (HX.out.later h2)
    have HT2:=hid (z0a HT.out h2)
    have HB2:=hid (HB1.out.trans (h2.mono HB1.out.size))
    clear h2 HX HT
    clear hgd
    obtain⟨_,a11,_,_,a14⟩:=HX2.out.at
    rw [HBK.out] at a11
    have a5:=(z0h HT2.out).2.2.2.2.2.1
    have HD2:Hid (OL w2 t.p t.n t.m t.c.dn):=hid (HD1.out.later (show Below W1.heap.size W1 w2 from HBG.out))
    have HST:=hid fun j (hj:j<t.n)=>opps_step t.c.dn j (by rw [HDL.out];exact hj)
    have HEND:Hid (opps (t.c.dn.take t.n)=t.c.dn.map oppO):=hid (by rw [← HDL.out,List.take_length];rfl)
    have HLN:=HDL
    generalize t.c.dn=DN at *
    generalize t.p=tp at *
    have HTT:=HT2
    clear HD1 a5
    go_wp2_with fail
    go_loopw [5,6] (fun v ix wr=>∃ j:Nat,j≤t.n∧ix=.int .i64 j∧Hid (z4d w2 wr v (opps (DN.take j)) j)) (fun _ ix _=>t.n-(Go.RowKit.intOf ix).toNat)
    case atStart=>exact⟨0,Nat.zero_le _,rfl,hid (by rw [List.take_zero];exact FillG.nil w2)⟩
    case round =>
     obtain⟨j,hj,rfl,HF⟩:=hrel
     have a5:=(z0h (z0a HTT.out HF.out.below)).2.2.2.2.2.1
     by_cases hlt:j<t.n
     case pos =>
      have hlt':(j:Int)<(t.n:Int):=by omega
      obtain⟨b,off,rfl,_,k0,k1,k2,k3⟩:=z2b (HD2.out.later HF.out.below) hlt
      have hst:=HST.out j hlt
      have hok:=HOK.out j hlt
      obtain⟨oo,hoo⟩:∃ oo,DN.getD j o0=oo:=⟨_,rfl⟩
      rw [hoo] at k0 k1 k2 k3 hst hok
      obtain⟨⟨ka,kb,kc⟩,d⟩:=oo
      have HOO:=hid hoo
      clear hoo
      dsimp only at k0 k1 k2 k3
      obtain⟨y,hy,hyn⟩:∃ y,oppO ((ka,kb,kc),d)=((ka,kb,kc),y)∧IntKind.i64.wrap (-d)=y:=⟨(oppO ((0,0,0),d)).2,rfl,opp_wrap d hok.2⟩
      rw [hy] at hst
      have HS:=hid hst
      have hmost:=HF.out.most
      have hsz:=HF.out.below.size
      have htn:t.n≤1000:=HTN.out
      have HLL:Hid ((opps (DN.take j)).length=j):=hid <| by
       have:=HLN.out
       rw [opps,List.length_map,List.length_take,this]
       omega
      clear hst hok hy
      go_upto_region 7 with (fail)
      have hbd:Below w2.heap.size w2 wr.drew:=HF.out.below.drew
      have HFD:=hid (HF.out.later (Below.refl wr.heap.size wr).drew)
      refine wp_region_held_drew (S:=fun w'=>Hid (Below w2.heap.size w2 w')) (by kernel_rfl) (hid hbd) (fun hHeld=>?_)
      clear hbd k0 k1 k2 k3 a5
      generalize wr.drew=Wd at *
      refine wpAnyH_take (i:=0) (oi:=⟨some 27,_,_,_,_,_⟩) (v:=u5) rfl (by kernel_rfl) (by kernel_rfl) (by kernel_rfl) (fun _ _ _ h=>h) (Or.inl ⟨by rfl,fun w' hw'=>?_⟩) (by assumption) ?_
      · clear hHeld
        go_simp
      try simp only [Act.put,sIB,sCZ,sCS]
      refine wpAnyH_take (i:=1) (oi:=⟨some 28,_,_,_,_,_⟩) (v:=.pointer (some ⟨B+1,5,none⟩)) rfl (by kernel_rfl) (by kernel_rfl) (by kernel_rfl) (fun _ _ _ h=>h) (Or.inl ⟨by rfl,fun w' hw'=>?_⟩) (by assumption) ?_
      · clear hHeld
        go_simp
      try simp only [Act.put,sIB,sCZ,sCS]
      refine wpAnyH_take (i:=2) (oi:=⟨some 29,_,_,_,_,_⟩) (v:=.slice (some ⟨b,off,none⟩) t.n t.m) rfl (by kernel_rfl) (by kernel_rfl) (by kernel_rfl) (fun _ _ _ h=>h) (Or.inl ⟨by rfl,fun w' hw'=>?_⟩) (by assumption) ?_
      · have hcx:=(z0h (z0a HTT.out hw'.out)).2.2.2.2.2.1
        clear hHeld hw'
        go_simp
      try simp only [Act.put,sIB,sCZ,sCS]
      refine wpAnyH_take (i:=3) (oi:=⟨some 30,_,_,_,_,_⟩) (v:=.int .i64 (j:Int)) rfl (by kernel_rfl) (by kernel_rfl) (by kernel_rfl) (fun _ _ _ h=>h) (Or.inl ⟨by rfl,fun w' hw'=>?_⟩) (by assumption) ?_
      · clear hHeld
        go_simp
      try simp only [Act.put,sIB,sCZ,sCS]
      refine wpAnyH_take (i:=4) (oi:=⟨some 31,_,_,_,_,_⟩) (v:=.pointer (some ⟨b,off+j*4,none⟩)) rfl (by kernel_rfl) (by kernel_rfl) (by kernel_rfl) (fun _ _ _ h=>h) (Or.inl ⟨by rfl,fun w' hw'=>?_⟩) (by assumption) ?_
      · clear hHeld
        go_simp
      try simp only [Act.put,sIB,sCZ,sCS]
      refine wpAnyH_take (i:=5) (oi:=⟨some 32,_,_,_,_,_⟩) (v:=.pointer (some ⟨b,off+j*4,none⟩)) rfl (by kernel_rfl) (by kernel_rfl) (by kernel_rfl) (fun _ _ _ h=>h) (Or.inl ⟨by rfl,fun w' hw'=>?_⟩) (by assumption) ?_
      · clear hHeld
        go_simp
      try simp only [Act.put,sIB,sCZ,sCS]
      refine wpAnyH_take (i:=6) (oi:=⟨some 33,_,_,_,_,_⟩) (v:=.agg #[.int .u8 ka,.int .u8 kb,.int .u8 kc]) rfl (by kernel_rfl) (by kernel_rfl) (by kernel_rfl) (fun _ _ _ h=>h) (Or.inl ⟨by rfl,fun w' hw'=>?_⟩) (by assumption) ?_
      · obtain⟨b',off',heb,_,m0,m1,m2,m3⟩:=z2b (HD2.out.later hw'.out) hlt
        cases heb
        rw [HOO.out] at m0 m1 m2 m3
        clear hHeld hw'
        go_simp
      try simp only [Act.put,sIB,sCZ,sCS]
      refine wpAnyH_take (i:=7) (oi:=⟨some 34,_,_,_,_,_⟩) (v:=.pointer (some ⟨B+1,5,none⟩)) rfl (by kernel_rfl) (by kernel_rfl) (by kernel_rfl) (fun _ _ _ h=>h) (Or.inl ⟨by rfl,fun w' hw'=>?_⟩) (by assumption) ?_
      · clear hHeld
        go_simp
      try simp only [Act.put,sIB,sCZ,sCS]
      refine wpAnyH_take (i:=8) (oi:=⟨some 35,_,_,_,_,_⟩) (v:=.slice (some ⟨b,off,none⟩) t.n t.m) rfl (by kernel_rfl) (by kernel_rfl) (by kernel_rfl) (fun _ _ _ h=>h) (Or.inl ⟨by rfl,fun w' hw'=>?_⟩) (by assumption) ?_
      · have hcx:=(z0h (z0a HTT.out hw'.out)).2.2.2.2.2.1
        clear hHeld hw'
        go_simp
      try simp only [Act.put,sIB,sCZ,sCS]
      refine wpAnyH_take (i:=9) (oi:=⟨some 36,_,_,_,_,_⟩) (v:=.int .i64 (j:Int)) rfl (by kernel_rfl) (by kernel_rfl) (by kernel_rfl) (fun _ _ _ h=>h) (Or.inl ⟨by rfl,fun w' hw'=>?_⟩) (by assumption) ?_
      · clear hHeld
        go_simp
      try simp only [Act.put,sIB,sCZ,sCS]
      refine wpAnyH_take (i:=10) (oi:=⟨some 37,_,_,_,_,_⟩) (v:=.pointer (some ⟨b,off+j*4,none⟩)) rfl (by kernel_rfl) (by kernel_rfl) (by kernel_rfl) (fun _ _ _ h=>h) (Or.inl ⟨by rfl,fun w' hw'=>?_⟩) (by assumption) ?_
      · clear hHeld
        go_simp
      try simp only [Act.put,sIB,sCZ,sCS]
      refine wpAnyH_take (i:=11) (oi:=⟨some 38,_,_,_,_,_⟩) (v:=.pointer (some ⟨b,off+j*4+3,none⟩)) rfl (by kernel_rfl) (by kernel_rfl) (by kernel_rfl) (fun _ _ _ h=>h) (Or.inl ⟨by rfl,fun w' hw'=>?_⟩) (by assumption) ?_
      · clear hHeld
        go_simp
      try simp only [Act.put,sIB,sCZ,sCS]
      refine wpAnyH_take (i:=12) (oi:=⟨some 39,_,_,_,_,_⟩) (v:=.int .i64 d) rfl (by kernel_rfl) (by kernel_rfl) (by kernel_rfl) (fun _ _ _ h=>h) (Or.inl ⟨by rfl,fun w' hw'=>?_⟩) (by assumption) ?_
      · obtain⟨b',off',heb,_,m0,m1,m2,m3⟩:=z2b (HD2.out.later hw'.out) hlt
        cases heb
        rw [HOO.out] at m0 m1 m2 m3
        clear hHeld hw'
        go_simp
      try simp only [Act.put,sIB,sCZ,sCS]
      refine wpAnyH_take (i:=13) (oi:=⟨some 40,_,_,_,_,_⟩) (v:=.int .i64 y) rfl (by kernel_rfl) (by kernel_rfl) (by kernel_rfl) (fun _ _ _ h=>h) (Or.inl ⟨by rfl,fun w' hw'=>?_⟩) (by assumption) ?_
      · clear hHeld
        go_simp
      try simp only [Act.put,sIB,sCZ,sCS]
      refine wpAnyH_take (i:=14) (oi:=⟨some 41,_,_,_,_,_⟩) (v:=.agg #[.int .u8 ka,.int .u8 kb,.int .u8 kc,.int .i64 y]) rfl (by kernel_rfl) (by kernel_rfl) (by kernel_rfl) (fun _ _ _ h=>h) (Or.inl ⟨by rfl,fun w' hw'=>?_⟩) (by assumption) ?_
      · clear hHeld
        go_simp
      try simp only [Act.put,sIB,sCZ,sCS]
      refine wpAnyH_ready (rs:=[15]) (by kernel_rfl) (by simp) (AllReadyH.cons rfl (fun K hK=>?_) (AllReadyH.nil))
      go_simp
      have hba:Below Wd.heap.size Wd (Wd.alloc (.cells #[.int .u8 ka,.int .u8 kb,.int .u8 kc,.int .i64 y] 72)):=(Below.refl _ _).alloc (Nat.le_refl _) _
      have hSN:Hid (Below w2.heap.size w2 (Wd.alloc (.cells #[.int .u8 ka,.int .u8 kb,.int .u8 kc,.int .i64 y] 72))):=hid (hHeld.out.trans (hba.mono hHeld.out.size))
      have HFV:=hid (HFD.out.later hba)
      have hbk:=z0d Wd (.cells #[.int .u8 ka,.int .u8 kb,.int .u8 kc,.int .i64 y] 72)
      have HOL:Hid (OL (Wd.alloc (.cells #[.int .u8 ka,.int .u8 kb,.int .u8 kc,.int .i64 y] 72)) (some ⟨Wd.heap.size,0,none⟩) 1 1 [((ka,kb,kc),y)]):=hid (by
       refine⟨rfl,Nat.le_refl _,by decide,(fun h=>by cases h),fun _=>⟨_,_,rfl,z1b hbk,fun j hj i v hv=>?_⟩⟩
       obtain rfl:j=0:=by omega
       show (Wd.alloc _).cell? ⟨Wd.heap.size,0+0*4+i,none⟩=some v
       simp only [Nat.zero_mul,Nat.zero_add]
       exact z0b hbk (by simpa [oc,o0] using hv))
      clear hba hbk HFD
      generalize Wd.heap.size=G at *
      generalize Wd.alloc (.cells #[.int .u8 ka,.int .u8 kb,.int .u8 kc,.int .i64 y] 72)=V at *
      refine hK.out _ _ hSN (fun hHeld2=>?_)
      try simp only [Act.put,sIB,sCZ,sCS]
      clear hSN hK K hHeld
      have hHeld:=hHeld2
      clear hHeld2
      refine wpAnyH_ready (rs:=[16]) (by kernel_rfl) (by simp) (AllReadyH.cons rfl (fun K hK=>?_) (AllReadyH.nil))
      refine z2y rfl (.tmp 27) (.tmp 42) rfl u5 (opps (DN.take j)) j (by simp [Act.eval]) HFV.out (some ⟨G,0,none⟩) 1 1 [((ka,kb,kc),y)] (by simp [Act.eval]) HOL.out (by have:=HTN.out;omega) ?_
      intro p' n' c' w4 g1
      have HF2:=hid g1
      have hSN:Hid (Below w2.heap.size w2 w4):=hid g1.below
      clear g1
      refine hK.out _ _ hSN (fun hHeld2=>?_)
      try simp only [Act.put,sIB,sCZ,sCS]
      clear hSN hK K hHeld
      have hHeld:=hHeld2
      clear hHeld2
      refine wpAnyH_take (i:=17) (oi:=⟨some 5,_,_,_,_,_⟩) (v:=.slice p' n' c') rfl (by kernel_rfl) (by kernel_rfl) (by kernel_rfl) (fun _ _ _ h=>h) (Or.inl ⟨by rfl,fun w' hw'=>?_⟩) (by assumption) ?_
      · clear hHeld
        go_simp
      try simp only [Act.put,sIB,sCZ,sCS]
      refine wpAnyH_done (by kernel_rfl) ?_ _
      clear hHeld
      go_wp2_with fail
      go_roundw
      case rel=>exact⟨j+1,by omega,by go_num,hid (by rw [HS.out];exact HF2.out)⟩
      case measure=>simp [Go.RowKit.intOf];omega
     have hjn:j=t.n:=by omega
     subst hjn
     go_wp2_with fail
     go_ret
     rw [HE.out,← HEND.out]
     exact z1j (HF.out.gives z2q (by decide)) HB2.out
end Go.Proofs.YtnpjpelbcmgodaaDoor
