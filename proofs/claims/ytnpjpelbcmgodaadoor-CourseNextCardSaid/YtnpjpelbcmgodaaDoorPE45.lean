import Derived.Test.YtnpjpelbcmgodaaDoorPE99
import Derived.Test.YtnpjpelbcmgodaaDoorPE44
namespace Go.Proofs.YtnpjpelbcmgodaaDoor
open Go.Lib (hid)
set_option maxHeartbeats 16000000
open Go.RowKit Go.ChangeShapes Go.WideShapes
set_option linter.unusedVariables false
set_option linter.unusedSimpArgs false
set_option maxRecDepth 10000
theorem cr_rundo (t:Tv) (W:World) (hT:TvM W t) (hx:∀ o∈t.c.dn,Ook o) (hn:t.n≤1000):Calls Tryd.prog 20 #[.agg #[.int .u32 t.c.id,.int .u32 t.c.sg,.int .u8 t.c.st,.bool t.c.cp,.bool t.c.dd,.slice t.p t.n t.m,.int .i64 t.c.fs,.int .i64 t.c.sz]] W fun e w'=>e=.returned (.agg (rcs (rvK (z5x t.c))))∧Below W.heap.size W w':=by
 obtain⟨W1,hW1,hxb,hz,hb1⟩:∃ W1,(W.alloc (.cells #[.int .u32 t.c.id,.int .u32 t.c.sg,.int .u8 t.c.st,.bool t.c.cp,.bool t.c.dd,.slice t.p t.n t.m,.int .i64 t.c.fs,.int .i64 t.c.sz] 36)).alloc (.cells #[.int .u8 0,.int .u32 0,.int .u32 0,.int .u8 0,.bool false,.int .u8 0,.int .u8 0,.int .u8 0,.int .i64 0,.int .u8 0,.int .u8 0,.int .u32 0,.int .u8 0,.slice none 0 0,.slice none 0 0,.slice none 0 0,.int .u8 0,.int .u8 0,.int .u8 0,.int .i64 0] 32)=W1∧W1.heap[W.heap.size]?=some (.cells #[.int .u32 t.c.id,.int .u32 t.c.sg,.int .u8 t.c.st,.bool t.c.cp,.bool t.c.dd,.slice t.p t.n t.m,.int .i64 t.c.fs,.int .i64 t.c.sz] 36 (0,0))∧RB W1 (W.heap.size+1) rz∧Below W.heap.size W W1:=by
  have hb0:Below W.heap.size W (W.alloc (.cells #[.int .u32 t.c.id,.int .u32 t.c.sg,.int .u8 t.c.st,.bool t.c.cp,.bool t.c.dd,.slice t.p t.n t.m,.int .i64 t.c.fs,.int .i64 t.c.sz] 36)):=(Below.refl _ _).alloc (Nat.le_refl _) _
  have hs:(W.alloc (.cells #[.int .u32 t.c.id,.int .u32 t.c.sg,.int .u8 t.c.st,.bool t.c.cp,.bool t.c.dd,.slice t.p t.n t.m,.int .i64 t.c.fs,.int .i64 t.c.sz] 36)).heap.size=W.heap.size+1:=by simp only [World.alloc,Array.size_push]
  have hb1:Below (W.alloc (.cells #[.int .u32 t.c.id,.int .u32 t.c.sg,.int .u8 t.c.st,.bool t.c.cp,.bool t.c.dd,.slice t.p t.n t.m,.int .i64 t.c.fs,.int .i64 t.c.sz] 36)).heap.size (W.alloc (.cells #[.int .u32 t.c.id,.int .u32 t.c.sg,.int .u8 t.c.st,.bool t.c.cp,.bool t.c.dd,.slice t.p t.n t.m,.int .i64 t.c.fs,.int .i64 t.c.sz] 36)) ((W.alloc (.cells #[.int .u32 t.c.id,.int .u32 t.c.sg,.int .u8 t.c.st,.bool t.c.cp,.bool t.c.dd,.slice t.p t.n t.m,.int .i64 t.c.fs,.int .i64 t.c.sz] 36)).alloc (.cells #[.int .u8 0,.int .u32 0,.int .u32 0,.int .u8 0,.bool false,.int .u8 0,.int .u8 0,.int .u8 0,.int .i64 0,.int .u8 0,.int .u8 0,.int .u32 0,.int .u8 0,.slice none 0 0,.slice none 0 0,.slice none 0 0,.int .u8 0,.int .u8 0,.int .u8 0,.int .i64 0] 32)):=(Below.refl _ _).alloc (Nat.le_refl _) _
  refine⟨_,rfl,z0a (z0d W _) hb1,?_,hb0.trans (hb1.mono hb0.size)⟩
  have h:=RB.new (W.alloc (.cells #[.int .u32 t.c.id,.int .u32 t.c.sg,.int .u8 t.c.st,.bool t.c.cp,.bool t.c.dd,.slice t.p t.n t.m,.int .i64 t.c.fs,.int .i64 t.c.sz] 36)) rz
  rw [hs] at h
  exact h
 obtain⟨B,hB⟩:∃ B,W.heap.size=B:=⟨_,rfl⟩
 rw [hB] at hxb hz
 have HX:=hid hxb
 have HZ:=hid hz
 have HW1:=hid hW1
 have HB1:=hid hb1
 have HRE:=hid hB
 have hla:=rtlast_any t W1 (hT.later hb1) hx (by omega)
 have HU:Hid (z5x t.c=if (z2s t.c).2 then recK 6 0 t.c.id 0 false (z2s t.c).1.1 (z2s t.c).1.2 0 else recK 7 0 t.c.id 0 false (0,0,0) 0 0):=hid rfl
 generalize z5x t.c=U at *
 obtain⟨lc,hlc⟩:∃ lc,z2s t.c=lc:=⟨_,rfl⟩
 rw [hlc] at hla HU
 obtain⟨⟨⟨ka,kb,kc⟩,d⟩,b⟩:=lc
 dsimp only at hla
 obtain⟨a0,a1,a2,a3,a4,a5,a6,a7⟩:=z0h hxb
 clear hW1 hxb hz hb1 hB hT hx hn hlc
 go_enter Tryd.func20,Tryd.ntmps20
 go_upto_region 1 with (fail)
 rw [HW1.out,HRE.out]
 go_wp2_with fail
 refine hla.mono ?_
 rintro e w2 ⟨rfl,h2⟩
 have hba:Below w2.heap.size w2 (w2.alloc (.cells #[.int .u8 ka,.int .u8 kb,.int .u8 kc,.int .i64 d] 72)):=(Below.refl _ _).alloc (Nat.le_refl _) _
 have HZ3:=hid ((HZ.out.later h2).later hba)
 have hb2:=HB1.out.trans (h2.mono HB1.out.size)
 have HB3:=hid (hb2.trans (hba.mono hb2.size))
 have hx3:=z0a (z0a HX.out h2) hba
 have ho3:=z0d w2 (.cells #[.int .u8 ka,.int .u8 kb,.int .u8 kc,.int .i64 d] 72)
 obtain⟨G,hG⟩:∃ G,w2.heap.size=G:=⟨_,rfl⟩
 rw [hG] at ho3
 have HG:=hid hG
 clear a0 a1 a2 a3 a4 a5 a6 a7 h2 hba hb2 hla hG HX HZ
 go_upto_region 2 with (fail)
 rw [HG.out]
 generalize w2.alloc (.cells #[.int .u8 ka,.int .u8 kb,.int .u8 kc,.int .i64 d] 72)=w3 at *
 have a0:=(z0h hx3).1
 have o0:=z0b (j:=0) ho3 (v:=.int .u8 ka) rfl
 have o1:=z0b (j:=1) ho3 (v:=.int .u8 kb) rfl
 have o2:=z0b (j:=2) ho3 (v:=.int .u8 kc) rfl
 have o3:=z0b (j:=3) ho3 (v:=.int .i64 d) rfl
 clear hx3 ho3
 cases b
 · have HE:Hid (U=recK 7 0 t.c.id 0 false (0,0,0) 0 0):=hid HU.out
   clear HU
   go_wp2_with ((with_reducible refine z0g (rvK (recK 7 0 t.c.id 0 false (0,0,0) 0 0)) HZ3.out ?_ ?_ ?_);rfl;rfl)
   (try simp only [Exit.inBlock,Exit.then])
   refine bodyPost_ret (v:=.agg (rcs (rvK (recK 7 0 t.c.id 0 false (0,0,0) 0 0)))) ?_ rfl ⟨by rw [HE.out],below_setRow HB3.out (by have:=HRE.out;omega) _⟩
   exact z0u rfl _ _ (B+1) _ rfl (HZ3.out.set _)
 · have HE:Hid (U=recK 6 0 t.c.id 0 false (ka,kb,kc) d 0):=hid HU.out
   clear HU
   go_wp2_with ((with_reducible refine z0g (rvK (recK 6 0 t.c.id 0 false (ka,kb,kc) d 0)) HZ3.out ?_ ?_ ?_);rfl;rfl)
   (try simp only [Exit.inBlock,Exit.then])
   refine bodyPost_ret (v:=.agg (rcs (rvK (recK 6 0 t.c.id 0 false (ka,kb,kc) d 0)))) ?_ rfl ⟨by rw [HE.out],below_setRow HB3.out (by have:=HRE.out;omega) _⟩
   exact z0u rfl _ _ (B+1) _ rfl (HZ3.out.set _)
theorem cr_rops (c:Cv) (L:List Ln) (T:List Tk) (M:List Ln) (W:World) (hP:CvM W c L T M) (hok:Crok (c.x L T M)) (h1:c.p.ln≤400∧c.p.tn≤400∧c.p.wn≤400):Calls Tryd.prog 23 #[.agg (ccs c)] W (z2n W (opsC (c.x L T M))):=by
 obtain⟨W1,hW1,hx,hb1⟩:∃ W1,W.alloc (.cells (ccs c) 28)=W1∧CB W1 W.heap.size c∧Below W.heap.size W W1:=⟨_,rfl,CB.new W c,(Below.refl _ _).alloc (Nat.le_refl _) _⟩
 obtain⟨B,hB⟩:∃ B,W.heap.size=B:=⟨_,rfl⟩
 rw [hB] at hx
 have HX:=hid hx
 have HW1:=hid hW1
 have HB1:=hid hb1
 have HRE:=hid hB
 have HG:=hid fun w' (hb:Below W1.heap.size W1 w')=>z6d c L T M w' (PgM.later (PgM.later hP hb1) hb) hok h1
 have HS:Hid (Calls Tryd.prog 41 #[.agg (pcs c.p)] W1 (GivesS W1 (z0l (c.p.pg L T M)))):=hid (z5z c.p.pk c.p.od c.p.po c.p.lp c.p.ln c.p.lcp c.p.tp c.p.tn c.p.tcp c.p.wp c.p.wn c.p.wcp c.p.sk c.p.fr c.p.to c.p.q L T M W1 (PgM.later hP hb1) hok.P ⟨by omega,by omega,by omega⟩)
 obtain⟨S,hS⟩:∃ S,z0l (c.p.pg L T M)=S:=⟨_,rfl⟩
 rw [hS] at HS
 obtain⟨n,hn⟩:∃ n,S.length=n:=⟨_,rfl⟩
 have HN:=hid hn
 cases hg:z2d (c.x L T M) with
 | false =>
  rw [hg] at HG
  have HE:Hid (opsC (c.x L T M)=[]):=hid (by unfold opsC;rw [if_pos (.inl hg)])
  generalize opsC (c.x L T M)=LO at *
  clear hW1 hx hb1 hB hP hok h1 hg hS hn
  go_enter Tryd.func23,Tryd.ntmps23
  go_upto_region 1 with (fail)
  rw [HW1.out,HRE.out]
  go_wp2_with ((with_reducible refine z1e HX.out ?_ ?_);rfl)
  refine HS.out.mono ?_
  rintro e w2 ⟨p2,k2,H2,rfl,hs2,h2⟩
  simp only [HN.out] at hs2 ⊢
  have HX2:=hid (HX.out.later h2)
  have HB2:=hid h2
  have HS2:=hid hs2
  clear h2 hs2
  go_wp2_with ((with_reducible refine z0c HX2.out ?_ ?_);rfl)
  refine (HG.out _ HB2.out).mono ?_
  rintro e w3 ⟨rfl,h3⟩
  have HX3:=hid (HX2.out.later h3)
  have HB3:=hid (HB2.out.trans (h3.mono HB2.out.size))
  have HS3:=hid (HS2.out.later h3)
  have hcap:=HS3.out.row.cap
  clear h3 HX2 HS2
  go_wp2_with fail
  go_ret
  rw [HE.out]
  exact z2e (HB1.out.trans (HB3.out.mono HB1.out.size))
 | true =>
  rw [hg] at HG
  have hat:=fun h=>z7a (c:=c.x L T M) hg hok.P h
  have HBY:Hid ((z1k (c.x L T M)).2=true→opsC (c.x L T M)=if c.bk then negF (opsT (stpC (c.x L T M))) else opsT (stpC (c.x L T M))):=hid fun h=>by unfold opsC;rw [if_neg (by simp [hg,h])];rfl
  have HNO:Hid ((z1k (c.x L T M)).2=false→opsC (c.x L T M)=[]):=hid fun h=>by unfold opsC;rw [if_pos (.inr h)]
  have HTC:Hid (z1k (c.x L T M)=if c.bk then (c.st-1,decide (0<c.st)) else (c.st,decide (c.st<(n:Int)))):=hid (by rw [← hn,← hS];rfl)
  have hat2:(z1k (c.x L T M)).2=true→∃ i:Nat,(z1k (c.x L T M)).1=(i:Int)∧i<n∧stpC (c.x L T M)=S.getD i (0,0,[])∧z5n (S.getD i (0,0,[])):=fun h=>by
   obtain⟨i,a1,a2,a3,a4⟩:=hat h
   have a2':i<(z0l (c.p.pg L T M)).length:=a2
   have a3':stpC (c.x L T M)=(z0l (c.p.pg L T M)).getD i (0,0,[]):=a3
   rw [hS] at a2' a3'
   rw [a3'] at a4
   exact⟨i,a1,by omega,a3',a4⟩
  obtain⟨_,_,g3,g4,_⟩:=z1q hg
  have g3':0≤c.st:=g3
  have HLEN:=hid (z3i hg hok.P)
  have g4':c.st≤lenC (c.x L T M):=g4
  have HST:Hid (0≤c.st∧c.st≤5):=hid ⟨g3',by have:=HLEN.out;omega⟩
  generalize opsC (c.x L T M)=LO at *
  generalize stpC (c.x L T M)=SP at *
  generalize z1k (c.x L T M)=TU at *
  have HAT:=hid hat2
  clear hW1 hx hb1 hB hP hok h1 hg hS hn hat hat2 g3 g4 g3' g4' HLEN
  cases hbk:c.bk with
  | false =>
   rw [hbk] at HTC HBY
   have htc:TU=(c.st,decide (c.st<(n:Int))):=HTC.out
   by_cases hlt:c.st<(n:Int)
   · have ht2:TU.2=true:=by rw [htc];exact decide_eq_true hlt
     obtain⟨i,a1,hi2,a3,a4⟩:=HAT.out ht2
     have hst:c.st=(i:Int):=by rw [← a1,htc]
     have HE:Hid (LO=opsT (S.getD i (0,0,[]))):=hid (by rw [← a3];exact HBY.out ht2)
     have HFI:=hid a4
     have HST2:=hid hst
     have HBK:=hid hbk
     rw [hst] at hlt
     clear HTC HBY HNO HAT htc ht2 a1 a3 a4 hst hbk
     go_enter Tryd.func23,Tryd.ntmps23
     go_upto_region 1 with (fail)
     rw [HW1.out,HRE.out]
     go_wp2_with ((with_reducible refine z1e HX.out ?_ ?_);rfl)
     refine HS.out.mono ?_
     rintro e w2 ⟨p2,k2,H2,rfl,hs2,h2⟩
     simp only [HN.out] at hs2 ⊢
     have HX2:=hid (HX.out.later h2)
     have HB2:=hid h2
     have HS2:=hid hs2
     clear h2 hs2
     go_wp2_with ((with_reducible refine z0c HX2.out ?_ ?_);rfl)
     refine (HG.out _ HB2.out).mono ?_
     rintro e w3 ⟨rfl,h3⟩
     have HX3:=hid (HX2.out.later h3)
     have HB3:=hid (HB2.out.trans (h3.mono HB2.out.size))
     have HS3:=hid (HS2.out.later h3)
     have hcap:=HS3.out.row.cap
     clear h3 HX2 HS2
     obtain⟨_,c11,c12,_,_⟩:=HX3.out.at
     rw [HBK.out] at c11
     rw [HST2.out] at c12
     obtain⟨b,off,rfl,_,k0,k1,k2'⟩:=z2r HS3.out.row hi2
     obtain⟨t1,t2,t3⟩:=HS3.out.tells.at i (by rw [HS3.out.row.len];exact hi2)
     rw [t1] at k0
     rw [t2] at k1
     generalize (S.getD i (0,0,[]))=sj at *
     obtain⟨ts,rs,Lq⟩:=sj
     generalize H2.getD i hs0=hd at *
     obtain⟨y1,y2,ip,il,ic⟩:=hd
     dsimp only at k0 k1 k2' t1 t2 t3
     obtain⟨f1,f2,f3,f4,f5⟩:=HFI.out
     dsimp only at f1 f2 f3 f4 f5
     have hl1:=t3.len
     have HOP:=hid (z5r ts rs ip il ic Lq w3 t3 f4 (by omega))
     clear t1 t2 t3 f1 f2 f3 f4 f5 hl1 HFI HS3
     go_wp2_with fail
     refine HOP.out.mono ?_
     intro e w6 h6
     have h7:=z1j h6 (HB1.out.trans (HB3.out.mono HB1.out.size))
     obtain⟨p6,c6,rfl,h8⟩:=h7
     have H8:=hid h8
     clear h8 h6
     go_wp2_with fail
     go_ret
     rw [HE.out]
     exact⟨p6,c6,rfl,H8.out⟩
   · have ht2:TU.2=false:=by rw [htc];exact decide_eq_false hlt
     have HE:Hid (LO=[]):=hid (HNO.out ht2)
     have HBK:=hid hbk
     clear HTC HBY HNO HAT htc ht2 hbk
     go_enter Tryd.func23,Tryd.ntmps23
     go_upto_region 1 with (fail)
     rw [HW1.out,HRE.out]
     go_wp2_with ((with_reducible refine z1e HX.out ?_ ?_);rfl)
     refine HS.out.mono ?_
     rintro e w2 ⟨p2,k2,H2,rfl,hs2,h2⟩
     simp only [HN.out] at hs2 ⊢
     have HX2:=hid (HX.out.later h2)
     have HB2:=hid h2
     have HS2:=hid hs2
     clear h2 hs2
     go_wp2_with ((with_reducible refine z0c HX2.out ?_ ?_);rfl)
     refine (HG.out _ HB2.out).mono ?_
     rintro e w3 ⟨rfl,h3⟩
     have HX3:=hid (HX2.out.later h3)
     have HB3:=hid (HB2.out.trans (h3.mono HB2.out.size))
     have HS3:=hid (HS2.out.later h3)
     have hcap:=HS3.out.row.cap
     clear h3 HX2 HS2
     obtain⟨_,c11,c12,_,_⟩:=HX3.out.at
     rw [HBK.out] at c11
     go_wp2_with fail
     go_ret
     rw [HE.out]
     exact z2e (HB1.out.trans (HB3.out.mono HB1.out.size))
  | true =>
   rw [hbk] at HTC HBY
   have htc:TU=(c.st-1,decide (0<c.st)):=HTC.out
   by_cases hlt:0<c.st
   · have ht2:TU.2=true:=by rw [htc];exact decide_eq_true hlt
     obtain⟨i,a1,hi2,a3,a4⟩:=HAT.out ht2
     have hst:c.st-1=(i:Int):=by rw [← a1,htc]
     have hst1:c.st=(i:Int)+1:=by omega
     have hws:IntKind.i64.wrap ((i:Int)+1-1)=(i:Int):=by rw [IntWalk.i64_in _ (by have:=HST.out;omega)];omega
     have hwi:IntKind.i64.wrap (i:Int)=(i:Int):=IntWalk.i64_in _ (by have:=HST.out;omega)
     have HE:Hid (LO=negF (opsT (S.getD i (0,0,[])))):=hid (by rw [← a3];exact HBY.out ht2)
     have HFI:=hid a4
     have HST2:=hid hst1
     have HBK:=hid hbk
     have hnz:(i:Int)<(n:Int):=by omega
     have hpz:(0:Int)<(i:Int)+1:=by omega
     clear HTC HBY HNO HAT htc ht2 a1 a3 a4 hst hbk hst1 hlt
     go_enter Tryd.func23,Tryd.ntmps23
     go_upto_region 1 with (fail)
     rw [HW1.out,HRE.out]
     go_wp2_with ((with_reducible refine z1e HX.out ?_ ?_);rfl)
     refine HS.out.mono ?_
     rintro e w2 ⟨p2,k2,H2,rfl,hs2,h2⟩
     simp only [HN.out] at hs2 ⊢
     have HX2:=hid (HX.out.later h2)
     have HB2:=hid h2
     have HS2:=hid hs2
     clear h2 hs2
     go_wp2_with ((with_reducible refine z0c HX2.out ?_ ?_);rfl)
     refine (HG.out _ HB2.out).mono ?_
     rintro e w3 ⟨rfl,h3⟩
     have HX3:=hid (HX2.out.later h3)
     have HB3:=hid (HB2.out.trans (h3.mono HB2.out.size))
     have HS3:=hid (HS2.out.later h3)
     have hcap:=HS3.out.row.cap
     clear h3 HX2 HS2
     obtain⟨_,c11,c12,_,_⟩:=HX3.out.at
     rw [HBK.out] at c11
     rw [HST2.out] at c12
     obtain⟨b,off,rfl,_,k0,k1,k2'⟩:=z2r HS3.out.row hi2
     obtain⟨t1,t2,t3⟩:=HS3.out.tells.at i (by rw [HS3.out.row.len];exact hi2)
     rw [t1] at k0
     rw [t2] at k1
     generalize (S.getD i (0,0,[]))=sj at *
     obtain⟨ts,rs,Lq⟩:=sj
     generalize H2.getD i hs0=hd at *
     obtain⟨y1,y2,ip,il,ic⟩:=hd
     dsimp only at k0 k1 k2' t1 t2 t3
     obtain⟨f1,f2,f3,f4,f5⟩:=HFI.out
     dsimp only at f1 f2 f3 f4 f5
     have hl1:=t3.len
     have HOP:=hid (refundo_any ts rs ip il ic Lq w3 t3 f4 f3 (by omega))
     clear t1 t2 t3 f1 f2 f3 f4 f5 hl1 HFI HS3
     go_wp2_with fail
     refine HOP.out.mono ?_
     intro e w6 h6
     have h7:=z1j h6 (HB1.out.trans (HB3.out.mono HB1.out.size))
     obtain⟨p6,c6,rfl,h8⟩:=h7
     have H8:=hid h8
     clear h8 h6
     go_wp2_with fail
     go_ret
     rw [HE.out]
     exact⟨p6,c6,rfl,H8.out⟩
   · have ht2:TU.2=false:=by rw [htc];exact decide_eq_false hlt
     have HE:Hid (LO=[]):=hid (HNO.out ht2)
     have HBK:=hid hbk
     clear HTC HBY HNO HAT htc ht2 hbk
     go_enter Tryd.func23,Tryd.ntmps23
     go_upto_region 1 with (fail)
     rw [HW1.out,HRE.out]
     go_wp2_with ((with_reducible refine z1e HX.out ?_ ?_);rfl)
     refine HS.out.mono ?_
     rintro e w2 ⟨p2,k2,H2,rfl,hs2,h2⟩
     simp only [HN.out] at hs2 ⊢
     have HX2:=hid (HX.out.later h2)
     have HB2:=hid h2
     have HS2:=hid hs2
     clear h2 hs2
     go_wp2_with ((with_reducible refine z0c HX2.out ?_ ?_);rfl)
     refine (HG.out _ HB2.out).mono ?_
     rintro e w3 ⟨rfl,h3⟩
     have HX3:=hid (HX2.out.later h3)
     have HB3:=hid (HB2.out.trans (h3.mono HB2.out.size))
     have HS3:=hid (HS2.out.later h3)
     have hcap:=HS3.out.row.cap
     clear h3 HX2 HS2
     obtain⟨_,c11,c12,_,_⟩:=HX3.out.at
     rw [HBK.out] at c11
     go_wp2_with fail
     go_ret
     rw [HE.out]
     exact z2e (HB1.out.trans (HB3.out.mono HB1.out.size))
theorem cr_rnext (c:Cv) (L:List Ln) (T:List Tk) (M:List Ln) (W:World) (hP:CvM W c L T M) (hok:Crok (c.x L T M)) (h1:c.p.ln≤400∧c.p.tn≤400∧c.p.wn≤400) (t:Tv) (retry id:Int) (hT:TvM W t) (hx:∀ o∈t.c.dn,Ook o) (hn:t.n≤1000):Calls Tryd.prog 18 #[.agg (ccs c),.agg #[.int .u32 t.c.id,.int .u32 t.c.sg,.int .u8 t.c.st,.bool t.c.cp,.bool t.c.dd,.slice t.p t.n t.m,.int .i64 t.c.fs,.int .i64 t.c.sz],.int .i64 retry,.int .u32 id] W fun e w'=>e=.returned (.agg (rcs (rvK (z4e (c.x L T M) t.c retry id))))∧Below W.heap.size W w':=by
 obtain⟨W1,hW1,hxb,htb,hz,hb1⟩:=cr_three8 W c t
 obtain⟨B,hB⟩:∃ B,W.heap.size=B:=⟨_,rfl⟩
 rw [hB] at hxb htb hz
 have HX:=hid hxb
 have HT:=hid htb
 have HZ:=hid hz
 have HW1:=hid hW1
 have HB1:=hid hb1
 have HRE:=hid hB
 have hgd:=z6d c L T M W1 (PgM.later hP hb1) hok h1
 cases hg:z2d (c.x L T M) with
 | false =>
  rw [hg] at hgd
  have HE:Hid (z4e (c.x L T M) t.c retry id=noX):=hid (by unfold z4e;rw [if_pos hg])
  generalize z4e (c.x L T M) t.c retry id=N at *
  clear hW1 hxb htb hz hb1 hB hg hP hok h1 hT hx hn
  go_enter Tryd.func18,Tryd.ntmps18
  go_upto_region 1 with (fail)
  rw [HW1.out,HRE.out]
  try rw [show B+1+1=B+2 from rfl]
  go_wp2_with ((with_reducible refine z0c HX.out ?_ ?_);rfl)
  refine hgd.mono ?_
  rintro e w2 ⟨rfl,h2⟩
  have HX2:=hid (HX.out.later h2)
  have HT2:=hid (z0a HT.out h2)
  have HZ2:=hid (HZ.out.later h2)
  have HB2:=hid (HB1.out.trans (h2.mono HB1.out.size))
  clear h2 HX HT HZ
  clear hgd
  go_wp2_with (((with_reducible refine z0g (rvK noX) HZ2.out ?_ ?_ ?_);rfl;rfl))
  (try simp only [Exit.inBlock,Exit.then])
  refine bodyPost_ret (v:=.agg (rcs (rvK noX))) ?_ rfl ⟨by rw [HE.out],below_setRow HB2.out (by have:=HRE.out;omega) _⟩
  exact z0u rfl _ _ (B+2) _ rfl (HZ2.out.set _)
 | true =>
  rw [hg] at hgd
  have HS:Hid (∀ w',Below W.heap.size W w'→Calls Tryd.prog 41 #[.agg (pcs c.p)] w' (GivesS w' (z0l (c.p.pg L T M)))):=hid fun w' hb=>z5z c.p.pk c.p.od c.p.po c.p.lp c.p.ln c.p.lcp c.p.tp c.p.tn c.p.tcp c.p.wp c.p.wn c.p.wcp c.p.sk c.p.fr c.p.to c.p.q L T M w' (PgM.later hP hb) hok.P ⟨by omega,by omega,by omega⟩
  have HOP:=hid fun w' (hb:Below W.heap.size W w')=>cr_rops c L T M w' (PgM.later hP hb) hok h1
  have HUN:=hid fun w' (hb:Below W.heap.size W w')=>cr_rundo t w' (hT.later hb) hx hn
  have HNX:Hid (z4e (c.x L T M) t.c retry id=if c.tx≠0 then (if t.c.dd then z5x t.c else z4v (c.x L T M) t.c) else if c.bk=false∧retry<c.tr then recK 8 c.sg 0 0 false (0,0,0) 0 0 else z4c (c.x L T M) id):=hid (by unfold z4e;rw [if_neg (by rw [hg];simp)];rfl)
  have HTL:Hid (t.c.dn.length=t.n):=hid hT.len
  have hlf:=z3i hg hok.P
  obtain⟨_,_,g3,g4,_⟩:=z1q hg
  have g3':0≤c.st:=g3
  have g4':c.st≤lenC (c.x L T M):=g4
  obtain⟨S,hS⟩:∃ S,z0l (c.p.pg L T M)=S:=⟨_,rfl⟩
  rw [hS] at HS
  obtain⟨n,hnn⟩:∃ n,S.length=n:=⟨_,rfl⟩
  have hln:lenC (c.x L T M)=(n:Int):=by
   show ((z0l (c.p.pg L T M)).length:Int)=(n:Int)
   rw [hS,hnn]
  have HN:=hid hnn
  rw [hln] at g4' hlf
  have HST:Hid (0≤c.st∧c.st≤(n:Int)∧(n:Int)≤5):=hid ⟨g3',g4',hlf.2⟩
  have HBT:Hid (z4c (c.x L T M) id=if (z1k (c.x L T M)).2 then recK 2 c.sg id (z1k (c.x L T M)).1 c.bk (0,0,0) 0 0 else recK 9 c.sg 0 0 false (0,0,0) 0 (if c.bk then 2 else 1)):=hid rfl
  have HTC:Hid (z1k (c.x L T M)=if c.bk then (c.st-1,decide (0<c.st)) else (c.st,decide (c.st<(n:Int)))):=hid (by rw [← hln];rfl)
  have HWI:Hid (z4v (c.x L T M) t.c=if t.c.dn.length<(opsC (c.x L T M)).length then recK 3 0 t.c.id 0 false ((opsC (c.x L T M)).getD t.c.dn.length o0).1 ((opsC (c.x L T M)).getD t.c.dn.length o0).2 0 else recK 4 0 t.c.id 0 false (0,0,0) 0 0):=hid rfl
  rw [HTL.out] at HWI
  have hwu:IntKind.u8.wrap c.st=c.st:=IntWalk.u8_in _ (by omega)
  have hws:IntKind.i64.wrap (c.st-1)=c.st-1:=IntWalk.i64_in _ (by omega)
  generalize z4e (c.x L T M) t.c retry id=N at *
  generalize opsC (c.x L T M)=LO at *
  generalize z4c (c.x L T M) id=NB at *
  generalize z4v (c.x L T M) t.c=NW at *
  generalize z5x t.c=NU at *
  generalize z1k (c.x L T M)=TU at *
  obtain⟨al,hal⟩:∃ al,(c.st==(n:Int))=al:=⟨_,rfl⟩
  have HAL:=hid hal
  clear hW1 hxb htb hz hb1 hB hg hP hok h1 hT hx hn HTL hS hnn hln g3 g4 g3' g4' hlf
  cases q1:(c.tx==0) with
  | false =>
   have hne:c.tx≠0:=by simpa using q1
   obtain⟨dd,hd⟩:∃ dd,t.c.dd=dd:=⟨_,rfl⟩
   cases dd with
   | true =>
    have HE:Hid (N=NU):=hid (by rw [HNX.out,if_pos hne,hd];rfl)
    have HD:=hid hd
    clear HNX HBT HWI HTC HOP HST HAL hne hd
    go_enter Tryd.func18,Tryd.ntmps18
    go_upto_region 1 with (fail)
    rw [HW1.out,HRE.out]
    try rw [show B+1+1=B+2 from rfl]
    go_wp2_with ((with_reducible refine z0c HX.out ?_ ?_);rfl)
    refine hgd.mono ?_
    rintro e w2 ⟨rfl,h2⟩
    have HX2:=hid (HX.out.later h2)
    have HT2:=hid (z0a HT.out h2)
    have HZ2:=hid (HZ.out.later h2)
    have HB2:=hid (HB1.out.trans (h2.mono HB1.out.size))
    clear h2 HX HT HZ
    clear hgd
    go_upto_region 3 with (fail)
    have hbd:Below w2.heap.size w2 w2.drew:=(Below.refl _ _).drew
    refine wp_region_held_drew (S:=fun w'=>Hid (Below w2.heap.size w2 w')) (by kernel_rfl) (hid hbd) (fun hHeld=>?_)
    clear hbd
    generalize w2.drew=Wd at *
    refine wpAnyH_take (i:=0) (oi:=⟨some 16,_,_,_,_,_⟩) (v:=.pointer (some ⟨B,12,none⟩)) rfl (by kernel_rfl) (by kernel_rfl) (by kernel_rfl) (fun _ _ _ h=>h) (Or.inl ⟨by rfl,fun w' hw'=>?_⟩) (by assumption) ?_
    · clear hHeld
      go_simp
    try simp only [Act.put,sIB,sCZ,sCS]
    refine wpAnyH_take (i:=1) (oi:=⟨some 17,_,_,_,_,_⟩) (v:=.int .i64 c.st) rfl (by kernel_rfl) (by kernel_rfl) (by kernel_rfl) (fun _ _ _ h=>h) (Or.inl ⟨by rfl,fun w' hw'=>?_⟩) (by assumption) ?_
    · have hcx:=(HX2.out.later hw'.out).at.2.2.1
      clear hHeld hw'
      go_simp
    try simp only [Act.put,sIB,sCZ,sCS]
    refine wpAnyH_take (i:=2) (oi:=⟨some 18,_,_,_,_,_⟩) (v:=.pointer (some ⟨B,1,none⟩)) rfl (by kernel_rfl) (by kernel_rfl) (by kernel_rfl) (fun _ _ _ h=>h) (Or.inl ⟨by rfl,fun w' hw'=>?_⟩) (by assumption) ?_
    · clear hHeld
      go_simp
    try simp only [Act.put,sIB,sCZ,sCS]
    refine wpAnyH_take (i:=3) (oi:=⟨some 19,_,_,_,_,_⟩) (v:=.agg (pcs c.p)) rfl (by kernel_rfl) (by kernel_rfl) (by kernel_rfl) (fun _ _ _ h=>h) (Or.inl ⟨by rfl,fun w' hw'=>z0p rfl (HX2.out.later (Hid.out hw'))⟩) (by assumption) ?_
    try simp only [Act.put,sIB,sCZ,sCS]
    refine wpAnyH_ready (rs:=[4]) (by kernel_rfl) (by simp) (AllReadyH.cons rfl (fun K hK=>?_) (AllReadyH.nil))
    go_simp
    go_wp2_with fail
    refine (HS.out _ (HB2.out.trans (hHeld.out.mono HB2.out.size))).mono ?_
    rintro e w3 ⟨p3,k3,H3,rfl,hs3,hb3⟩
    have hSN:Hid (Below w2.heap.size w2 w3):=hid (hHeld.out.trans (hb3.mono hHeld.out.size))
    clear hb3 hs3
    rw [HN.out]
    go_wp2_with fail
    refine hK.out _ _ hSN (fun hHeld2=>?_)
    try simp only [Act.put,sIB,sCZ,sCS]
    clear hSN hK K hHeld
    have hHeld:=hHeld2
    clear hHeld2
    refine wpAnyH_take (i:=5) (oi:=⟨some 21,_,_,_,_,_⟩) (v:=.int .i64 (n:Int)) rfl (by kernel_rfl) (by kernel_rfl) (by kernel_rfl) (fun _ _ _ h=>h) (Or.inl ⟨by rfl,fun w' hw'=>?_⟩) (by assumption) ?_
    · clear hHeld
      go_simp
    try simp only [Act.put,sIB,sCZ,sCS]
    refine wpAnyH_take (i:=6) (oi:=⟨some 22,_,_,_,_,_⟩) (v:=.bool al) rfl (by kernel_rfl) (by kernel_rfl) (by kernel_rfl) (fun _ _ _ h=>h) (Or.inl ⟨by rfl,fun w' hw'=>?_⟩) (by assumption) ?_
    · clear hHeld
      go_simp
    try simp only [Act.put,sIB,sCZ,sCS]
    refine wpAnyH_take (i:=7) (oi:=⟨some 9,_,_,_,_,_⟩) (v:=.bool al) rfl (by kernel_rfl) (by kernel_rfl) (by kernel_rfl) (fun _ _ _ h=>h) (Or.inl ⟨by rfl,fun w' hw'=>?_⟩) (by assumption) ?_
    · clear hHeld
      go_simp
    try simp only [Act.put,sIB,sCZ,sCS]
    have h3:=hHeld.out
    refine wpAnyH_done (by kernel_rfl) ?_ _
    clear hHeld HS
    have HX3:=hid (HX2.out.later h3)
    have HT3:=hid (z0a HT2.out h3)
    have HZ3:=hid (HZ2.out.later h3)
    have HB3:=hid (HB2.out.trans (h3.mono HB2.out.size))
    clear h3 HX2 HT2 HZ2
    clear hal hwu hws
    have a14:=HX3.out.at.2.2.2.2
    have b4:=(z0h HT3.out).2.2.2.2.1
    rw [HD.out] at b4
    go_upto_region 15 with (fail)
    clear a14 b4
    obtain⟨d0,d1,d2,d3,d4,d5,d6,d7⟩:=z0h HT3.out
    go_wp2_with fail
    refine (HUN.out _ HB3.out).mono ?_
    rintro e w5 ⟨rfl,h5⟩
    clear d0 d1 d2 d3 d4 d5 d6 d7
    have HX5:=hid (HX3.out.later h5)
    have HT5:=hid (z0a HT3.out h5)
    have HZ5:=hid (HZ3.out.later h5)
    have HB5:=hid (HB3.out.trans (h5.mono HB3.out.size))
    clear h5 HX3 HT3 HZ3
    clear HUN
    go_wp2_with (((with_reducible refine z0g (rvK NU) HZ5.out ?_ ?_ ?_);rfl;rfl))
    (try simp only [Exit.inBlock,Exit.then])
    refine bodyPost_ret (v:=.agg (rcs (rvK NU))) ?_ rfl ⟨by rw [HE.out],below_setRow HB5.out (by have:=HRE.out;omega) _⟩
    exact z0u rfl _ _ (B+2) _ rfl (HZ5.out.set _)
   | false =>
    have HNW:Hid (N=NW):=hid (by rw [HNX.out,if_pos hne,hd];rfl)
    have HNE:Hid (t.n<LO.length→N=recK 3 0 t.c.id 0 false (LO.getD t.n o0).1 (LO.getD t.n o0).2 0):=hid fun h=>by rw [HNW.out,HWI.out,if_pos h]
    have HNF:Hid (¬ t.n<LO.length→N=recK 4 0 t.c.id 0 false (0,0,0) 0 0):=hid fun h=>by rw [HNW.out,HWI.out,if_neg h]
    have HD:=hid hd
    clear HNX HBT HWI HTC HUN HST HAL hne hd HNW
    go_enter Tryd.func18,Tryd.ntmps18
    go_upto_region 1 with (fail)
    rw [HW1.out,HRE.out]
    try rw [show B+1+1=B+2 from rfl]
    go_wp2_with ((with_reducible refine z0c HX.out ?_ ?_);rfl)
    refine hgd.mono ?_
    rintro e w2 ⟨rfl,h2⟩
    have HX2:=hid (HX.out.later h2)
    have HT2:=hid (z0a HT.out h2)
    have HZ2:=hid (HZ.out.later h2)
    have HB2:=hid (HB1.out.trans (h2.mono HB1.out.size))
    clear h2 HX HT HZ
    clear hgd
    go_upto_region 3 with (fail)
    have hbd:Below w2.heap.size w2 w2.drew:=(Below.refl _ _).drew
    refine wp_region_held_drew (S:=fun w'=>Hid (Below w2.heap.size w2 w')) (by kernel_rfl) (hid hbd) (fun hHeld=>?_)
    clear hbd
    generalize w2.drew=Wd at *
    refine wpAnyH_take (i:=0) (oi:=⟨some 16,_,_,_,_,_⟩) (v:=.pointer (some ⟨B,12,none⟩)) rfl (by kernel_rfl) (by kernel_rfl) (by kernel_rfl) (fun _ _ _ h=>h) (Or.inl ⟨by rfl,fun w' hw'=>?_⟩) (by assumption) ?_
    · clear hHeld
      go_simp
    try simp only [Act.put,sIB,sCZ,sCS]
    refine wpAnyH_take (i:=1) (oi:=⟨some 17,_,_,_,_,_⟩) (v:=.int .i64 c.st) rfl (by kernel_rfl) (by kernel_rfl) (by kernel_rfl) (fun _ _ _ h=>h) (Or.inl ⟨by rfl,fun w' hw'=>?_⟩) (by assumption) ?_
    · have hcx:=(HX2.out.later hw'.out).at.2.2.1
      clear hHeld hw'
      go_simp
    try simp only [Act.put,sIB,sCZ,sCS]
    refine wpAnyH_take (i:=2) (oi:=⟨some 18,_,_,_,_,_⟩) (v:=.pointer (some ⟨B,1,none⟩)) rfl (by kernel_rfl) (by kernel_rfl) (by kernel_rfl) (fun _ _ _ h=>h) (Or.inl ⟨by rfl,fun w' hw'=>?_⟩) (by assumption) ?_
    · clear hHeld
      go_simp
    try simp only [Act.put,sIB,sCZ,sCS]
    refine wpAnyH_take (i:=3) (oi:=⟨some 19,_,_,_,_,_⟩) (v:=.agg (pcs c.p)) rfl (by kernel_rfl) (by kernel_rfl) (by kernel_rfl) (fun _ _ _ h=>h) (Or.inl ⟨by rfl,fun w' hw'=>z0p rfl (HX2.out.later (Hid.out hw'))⟩) (by assumption) ?_
    try simp only [Act.put,sIB,sCZ,sCS]
    refine wpAnyH_ready (rs:=[4]) (by kernel_rfl) (by simp) (AllReadyH.cons rfl (fun K hK=>?_) (AllReadyH.nil))
    go_simp
    go_wp2_with fail
    refine (HS.out _ (HB2.out.trans (hHeld.out.mono HB2.out.size))).mono ?_
    rintro e w3 ⟨p3,k3,H3,rfl,hs3,hb3⟩
    have hSN:Hid (Below w2.heap.size w2 w3):=hid (hHeld.out.trans (hb3.mono hHeld.out.size))
    clear hb3 hs3
    rw [HN.out]
    go_wp2_with fail
    refine hK.out _ _ hSN (fun hHeld2=>?_)
    try simp only [Act.put,sIB,sCZ,sCS]
    clear hSN hK K hHeld
    have hHeld:=hHeld2
    clear hHeld2
    refine wpAnyH_take (i:=5) (oi:=⟨some 21,_,_,_,_,_⟩) (v:=.int .i64 (n:Int)) rfl (by kernel_rfl) (by kernel_rfl) (by kernel_rfl) (fun _ _ _ h=>h) (Or.inl ⟨by rfl,fun w' hw'=>?_⟩) (by assumption) ?_
    · clear hHeld
      go_simp
    try simp only [Act.put,sIB,sCZ,sCS]
    refine wpAnyH_take (i:=6) (oi:=⟨some 22,_,_,_,_,_⟩) (v:=.bool al) rfl (by kernel_rfl) (by kernel_rfl) (by kernel_rfl) (fun _ _ _ h=>h) (Or.inl ⟨by rfl,fun w' hw'=>?_⟩) (by assumption) ?_
    · clear hHeld
      go_simp
    try simp only [Act.put,sIB,sCZ,sCS]
    refine wpAnyH_take (i:=7) (oi:=⟨some 9,_,_,_,_,_⟩) (v:=.bool al) rfl (by kernel_rfl) (by kernel_rfl) (by kernel_rfl) (fun _ _ _ h=>h) (Or.inl ⟨by rfl,fun w' hw'=>?_⟩) (by assumption) ?_
    · clear hHeld
      go_simp
    try simp only [Act.put,sIB,sCZ,sCS]
    have h3:=hHeld.out
    refine wpAnyH_done (by kernel_rfl) ?_ _
    clear hHeld HS
    have HX3:=hid (HX2.out.later h3)
    have HT3:=hid (z0a HT2.out h3)
    have HZ3:=hid (HZ2.out.later h3)
    have HB3:=hid (HB2.out.trans (h3.mono HB2.out.size))
    clear h3 HX2 HT2 HZ2
    clear hal hwu hws
    have a14:=HX3.out.at.2.2.2.2
    have b4:=(z0h HT3.out).2.2.2.2.1
    rw [HD.out] at b4
    clear HN
    go_upto_region 16 with (fail)
    clear a14 b4
    go_wp2_with ((with_reducible refine z0c HX3.out ?_ ?_);rfl)
    refine (HOP.out _ HB3.out).mono ?_
    rintro e w5 ⟨p3,k3,rfl,hs3,h5,_⟩
    have hs4:=hs3
    have HX5:=hid (HX3.out.later h5)
    have HT5:=hid (z0a HT3.out h5)
    have HZ5:=hid (HZ3.out.later h5)
    have HB5:=hid (HB3.out.trans (h5.mono HB3.out.size))
    clear h5 HX3 HT3 HZ3
    clear HOP
    have a0:=(z0h HT5.out).1
    have a5:=(z0h HT5.out).2.2.2.2.2.1
    have hc3:=hs3.cap
    obtain⟨n,hn⟩:∃ n,LO.length=n:=⟨_,rfl⟩
    simp only [hn] at hs3 hs4 hc3 ⊢
    have HN:=hid hn
    clear hn hs4
    by_cases hlt:t.n<n
    · have hltz:(t.n:Int)<(n:Int):=by omega
      obtain⟨b,off,rfl,_,k0,k1,k2,k3'⟩:=z2b hs3 hlt
      have hne:=HNE.out (by rw [HN.out];exact hlt)
      generalize LO.getD t.n o0=oo at *
      obtain⟨⟨ka,kb,kc⟩,d⟩:=oo
      dsimp only at k0 k1 k2 k3' hne
      have HE:Hid (N=recK 3 0 t.c.id 0 false (ka,kb,kc) d 0):=hid hne
      have hba:Below w5.heap.size w5 (w5.alloc (.cells #[.int .u8 ka,.int .u8 kb,.int .u8 kc,.int .i64 d] 72)):=(Below.refl _ _).alloc (Nat.le_refl _) _
      have ho4:=z0d w5 (.cells #[.int .u8 ka,.int .u8 kb,.int .u8 kc,.int .i64 d] 72)
      have HZ4:=hid (HZ5.out.later hba)
      have ht4:=z0a HT5.out hba
      have HB4:=hid (HB5.out.trans (hba.mono HB5.out.size))
      obtain⟨G,hG⟩:∃ G,w5.heap.size=G:=⟨_,rfl⟩
      rw [hG] at ho4
      have HG:=hid hG
      clear hba hG hs3 hne HNE HNF HX5 HT5 HZ5
      go_upto_region 19 with (fail)
      rw [HG.out]
      clear k0 k1 k2 k3' a0 a5
      generalize w5.alloc (.cells #[.int .u8 ka,.int .u8 kb,.int .u8 kc,.int .i64 d] 72)=w4 at *
      have a0:=(z0h ht4).1
      have o0:=z0b (j:=0) ho4 (v:=.int .u8 ka) rfl
      have o1:=z0b (j:=1) ho4 (v:=.int .u8 kb) rfl
      have o2:=z0b (j:=2) ho4 (v:=.int .u8 kc) rfl
      have o3:=z0b (j:=3) ho4 (v:=.int .i64 d) rfl
      clear ht4 ho4
      go_wp2_with (((with_reducible refine z0g (rvK (recK 3 0 t.c.id 0 false (ka,kb,kc) d 0)) HZ4.out ?_ ?_ ?_);rfl;rfl))
      (try simp only [Exit.inBlock,Exit.then])
      refine bodyPost_ret (v:=.agg (rcs (rvK (recK 3 0 t.c.id 0 false (ka,kb,kc) d 0)))) ?_ rfl ⟨by rw [HE.out],below_setRow HB4.out (by have:=HRE.out;omega) _⟩
      exact z0u rfl _ _ (B+2) _ rfl (HZ4.out.set _)
    · have hltz:¬ (t.n:Int)<(n:Int):=by omega
      have HE:Hid (N=recK 4 0 t.c.id 0 false (0,0,0) 0 0):=hid (HNF.out (by rw [HN.out];exact hlt))
      clear HNE HNF hs3
      go_wp2_with (((with_reducible refine z0g (rvK (recK 4 0 t.c.id 0 false (0,0,0) 0 0)) HZ5.out ?_ ?_ ?_);rfl;rfl))
      (try simp only [Exit.inBlock,Exit.then])
      refine bodyPost_ret (v:=.agg (rcs (rvK (recK 4 0 t.c.id 0 false (0,0,0) 0 0)))) ?_ rfl ⟨by rw [HE.out],below_setRow HB5.out (by have:=HRE.out;omega) _⟩
      exact z0u rfl _ _ (B+2) _ rfl (HZ5.out.set _)
  | true =>
   have heq:c.tx=0:=by simpa using q1
   cases hb:c.bk with
   | false =>
    rw [hb] at HTC HBT
    have HBK:=hid hb
    by_cases hr:retry<c.tr
    · have hrd:decide (retry<c.tr)=true:=decide_eq_true hr
      have HE:Hid (N=recK 8 c.sg 0 0 false (0,0,0) 0 0):=hid (by rw [HNX.out,if_neg (by omega),if_pos ⟨hb,hr⟩])
      clear HNX HBT HWI HTC HOP HUN HST HAL heq hb
      go_enter Tryd.func18,Tryd.ntmps18
      go_upto_region 1 with (fail)
      rw [HW1.out,HRE.out]
      try rw [show B+1+1=B+2 from rfl]
      go_wp2_with ((with_reducible refine z0c HX.out ?_ ?_);rfl)
      refine hgd.mono ?_
      rintro e w2 ⟨rfl,h2⟩
      have HX2:=hid (HX.out.later h2)
      have HT2:=hid (z0a HT.out h2)
      have HZ2:=hid (HZ.out.later h2)
      have HB2:=hid (HB1.out.trans (h2.mono HB1.out.size))
      clear h2 HX HT HZ
      clear hgd
      go_upto_region 3 with (fail)
      have hbd:Below w2.heap.size w2 w2.drew:=(Below.refl _ _).drew
      refine wp_region_held_drew (S:=fun w'=>Hid (Below w2.heap.size w2 w')) (by kernel_rfl) (hid hbd) (fun hHeld=>?_)
      clear hbd
      generalize w2.drew=Wd at *
      refine wpAnyH_take (i:=0) (oi:=⟨some 16,_,_,_,_,_⟩) (v:=.pointer (some ⟨B,12,none⟩)) rfl (by kernel_rfl) (by kernel_rfl) (by kernel_rfl) (fun _ _ _ h=>h) (Or.inl ⟨by rfl,fun w' hw'=>?_⟩) (by assumption) ?_
      · clear hHeld
        go_simp
      try simp only [Act.put,sIB,sCZ,sCS]
      refine wpAnyH_take (i:=1) (oi:=⟨some 17,_,_,_,_,_⟩) (v:=.int .i64 c.st) rfl (by kernel_rfl) (by kernel_rfl) (by kernel_rfl) (fun _ _ _ h=>h) (Or.inl ⟨by rfl,fun w' hw'=>?_⟩) (by assumption) ?_
      · have hcx:=(HX2.out.later hw'.out).at.2.2.1
        clear hHeld hw'
        go_simp
      try simp only [Act.put,sIB,sCZ,sCS]
      refine wpAnyH_take (i:=2) (oi:=⟨some 18,_,_,_,_,_⟩) (v:=.pointer (some ⟨B,1,none⟩)) rfl (by kernel_rfl) (by kernel_rfl) (by kernel_rfl) (fun _ _ _ h=>h) (Or.inl ⟨by rfl,fun w' hw'=>?_⟩) (by assumption) ?_
      · clear hHeld
        go_simp
      try simp only [Act.put,sIB,sCZ,sCS]
      refine wpAnyH_take (i:=3) (oi:=⟨some 19,_,_,_,_,_⟩) (v:=.agg (pcs c.p)) rfl (by kernel_rfl) (by kernel_rfl) (by kernel_rfl) (fun _ _ _ h=>h) (Or.inl ⟨by rfl,fun w' hw'=>z0p rfl (HX2.out.later (Hid.out hw'))⟩) (by assumption) ?_
      try simp only [Act.put,sIB,sCZ,sCS]
      refine wpAnyH_ready (rs:=[4]) (by kernel_rfl) (by simp) (AllReadyH.cons rfl (fun K hK=>?_) (AllReadyH.nil))
      go_simp
      go_wp2_with fail
      refine (HS.out _ (HB2.out.trans (hHeld.out.mono HB2.out.size))).mono ?_
      rintro e w3 ⟨p3,k3,H3,rfl,hs3,hb3⟩
      have hSN:Hid (Below w2.heap.size w2 w3):=hid (hHeld.out.trans (hb3.mono hHeld.out.size))
      clear hb3 hs3
      rw [HN.out]
      go_wp2_with fail
      refine hK.out _ _ hSN (fun hHeld2=>?_)
      try simp only [Act.put,sIB,sCZ,sCS]
      clear hSN hK K hHeld
      have hHeld:=hHeld2
      clear hHeld2
      refine wpAnyH_take (i:=5) (oi:=⟨some 21,_,_,_,_,_⟩) (v:=.int .i64 (n:Int)) rfl (by kernel_rfl) (by kernel_rfl) (by kernel_rfl) (fun _ _ _ h=>h) (Or.inl ⟨by rfl,fun w' hw'=>?_⟩) (by assumption) ?_
      · clear hHeld
        go_simp
      try simp only [Act.put,sIB,sCZ,sCS]
      refine wpAnyH_take (i:=6) (oi:=⟨some 22,_,_,_,_,_⟩) (v:=.bool al) rfl (by kernel_rfl) (by kernel_rfl) (by kernel_rfl) (fun _ _ _ h=>h) (Or.inl ⟨by rfl,fun w' hw'=>?_⟩) (by assumption) ?_
      · clear hHeld
        go_simp
      try simp only [Act.put,sIB,sCZ,sCS]
      refine wpAnyH_take (i:=7) (oi:=⟨some 9,_,_,_,_,_⟩) (v:=.bool al) rfl (by kernel_rfl) (by kernel_rfl) (by kernel_rfl) (fun _ _ _ h=>h) (Or.inl ⟨by rfl,fun w' hw'=>?_⟩) (by assumption) ?_
      · clear hHeld
        go_simp
      try simp only [Act.put,sIB,sCZ,sCS]
      have h3:=hHeld.out
      refine wpAnyH_done (by kernel_rfl) ?_ _
      clear hHeld HS
      have HX3:=hid (HX2.out.later h3)
      have HT3:=hid (z0a HT2.out h3)
      have HZ3:=hid (HZ2.out.later h3)
      have HB3:=hid (HB2.out.trans (h3.mono HB2.out.size))
      clear h3 HX2 HT2 HZ2
      clear hal hwu hws
      obtain⟨a0,a11,a12,a13,a14⟩:=HX3.out.at
      rw [HBK.out] at a11
      go_wp2_with (((with_reducible refine z0g (rvK (recK 8 c.sg 0 0 false (0,0,0) 0 0)) HZ3.out ?_ ?_ ?_);rfl;rfl))
      (try simp only [Exit.inBlock,Exit.then])
      refine bodyPost_ret (v:=.agg (rcs (rvK (recK 8 c.sg 0 0 false (0,0,0) 0 0)))) ?_ rfl ⟨by rw [HE.out],below_setRow HB3.out (by have:=HRE.out;omega) _⟩
      exact z0u rfl _ _ (B+2) _ rfl (HZ3.out.set _)
    · have hbt:=HBT.out
      rw [HTC.out] at hbt
      have hnb:N=NB:=by rw [HNX.out,if_neg (by omega),if_neg (fun h=>hr h.2)]
      have hrd:decide (retry<c.tr)=false:=decide_eq_false hr
      cases al with
      | true =>
       have hsn:c.st=(n:Int):=by simpa using HAL.out
       have HE:Hid (N=recK 9 c.sg 0 0 false (0,0,0) 0 1):=hid (by rw [hnb,hbt];simp [hsn])
       clear HNX HBT HWI HTC HOP HUN HST HAL heq hb hbt hnb hsn
       go_enter Tryd.func18,Tryd.ntmps18
       go_upto_region 1 with (fail)
       rw [HW1.out,HRE.out]
       try rw [show B+1+1=B+2 from rfl]
       go_wp2_with ((with_reducible refine z0c HX.out ?_ ?_);rfl)
       refine hgd.mono ?_
       rintro e w2 ⟨rfl,h2⟩
       have HX2:=hid (HX.out.later h2)
       have HT2:=hid (z0a HT.out h2)
       have HZ2:=hid (HZ.out.later h2)
       have HB2:=hid (HB1.out.trans (h2.mono HB1.out.size))
       clear h2 HX HT HZ
       clear hgd
       go_upto_region 3 with (fail)
       have hbd:Below w2.heap.size w2 w2.drew:=(Below.refl _ _).drew
       refine wp_region_held_drew (S:=fun w'=>Hid (Below w2.heap.size w2 w')) (by kernel_rfl) (hid hbd) (fun hHeld=>?_)
       clear hbd
       generalize w2.drew=Wd at *
       refine wpAnyH_take (i:=0) (oi:=⟨some 16,_,_,_,_,_⟩) (v:=.pointer (some ⟨B,12,none⟩)) rfl (by kernel_rfl) (by kernel_rfl) (by kernel_rfl) (fun _ _ _ h=>h) (Or.inl ⟨by rfl,fun w' hw'=>?_⟩) (by assumption) ?_
       · clear hHeld
         go_simp
       try simp only [Act.put,sIB,sCZ,sCS]
       refine wpAnyH_take (i:=1) (oi:=⟨some 17,_,_,_,_,_⟩) (v:=.int .i64 c.st) rfl (by kernel_rfl) (by kernel_rfl) (by kernel_rfl) (fun _ _ _ h=>h) (Or.inl ⟨by rfl,fun w' hw'=>?_⟩) (by assumption) ?_
       · have hcx:=(HX2.out.later hw'.out).at.2.2.1
         clear hHeld hw'
         go_simp
       try simp only [Act.put,sIB,sCZ,sCS]
       refine wpAnyH_take (i:=2) (oi:=⟨some 18,_,_,_,_,_⟩) (v:=.pointer (some ⟨B,1,none⟩)) rfl (by kernel_rfl) (by kernel_rfl) (by kernel_rfl) (fun _ _ _ h=>h) (Or.inl ⟨by rfl,fun w' hw'=>?_⟩) (by assumption) ?_
       · clear hHeld
         go_simp
       try simp only [Act.put,sIB,sCZ,sCS]
       refine wpAnyH_take (i:=3) (oi:=⟨some 19,_,_,_,_,_⟩) (v:=.agg (pcs c.p)) rfl (by kernel_rfl) (by kernel_rfl) (by kernel_rfl) (fun _ _ _ h=>h) (Or.inl ⟨by rfl,fun w' hw'=>z0p rfl (HX2.out.later (Hid.out hw'))⟩) (by assumption) ?_
       try simp only [Act.put,sIB,sCZ,sCS]
       refine wpAnyH_ready (rs:=[4]) (by kernel_rfl) (by simp) (AllReadyH.cons rfl (fun K hK=>?_) (AllReadyH.nil))
       go_simp
       go_wp2_with fail
       refine (HS.out _ (HB2.out.trans (hHeld.out.mono HB2.out.size))).mono ?_
       rintro e w3 ⟨p3,k3,H3,rfl,hs3,hb3⟩
       have hSN:Hid (Below w2.heap.size w2 w3):=hid (hHeld.out.trans (hb3.mono hHeld.out.size))
       clear hb3 hs3
       rw [HN.out]
       go_wp2_with fail
       refine hK.out _ _ hSN (fun hHeld2=>?_)
       try simp only [Act.put,sIB,sCZ,sCS]
       clear hSN hK K hHeld
       have hHeld:=hHeld2
       clear hHeld2
       refine wpAnyH_take (i:=5) (oi:=⟨some 21,_,_,_,_,_⟩) (v:=.int .i64 (n:Int)) rfl (by kernel_rfl) (by kernel_rfl) (by kernel_rfl) (fun _ _ _ h=>h) (Or.inl ⟨by rfl,fun w' hw'=>?_⟩) (by assumption) ?_
       · clear hHeld
         go_simp
       try simp only [Act.put,sIB,sCZ,sCS]
       refine wpAnyH_take (i:=6) (oi:=⟨some 22,_,_,_,_,_⟩) (v:=.bool true) rfl (by kernel_rfl) (by kernel_rfl) (by kernel_rfl) (fun _ _ _ h=>h) (Or.inl ⟨by rfl,fun w' hw'=>?_⟩) (by assumption) ?_
       · clear hHeld
         go_simp
       try simp only [Act.put,sIB,sCZ,sCS]
       refine wpAnyH_take (i:=7) (oi:=⟨some 9,_,_,_,_,_⟩) (v:=.bool true) rfl (by kernel_rfl) (by kernel_rfl) (by kernel_rfl) (fun _ _ _ h=>h) (Or.inl ⟨by rfl,fun w' hw'=>?_⟩) (by assumption) ?_
       · clear hHeld
         go_simp
       try simp only [Act.put,sIB,sCZ,sCS]
       have h3:=hHeld.out
       refine wpAnyH_done (by kernel_rfl) ?_ _
       clear hHeld HS
       have HX3:=hid (HX2.out.later h3)
       have HT3:=hid (z0a HT2.out h3)
       have HZ3:=hid (HZ2.out.later h3)
       have HB3:=hid (HB2.out.trans (h3.mono HB2.out.size))
       clear h3 HX2 HT2 HZ2
       clear hal hwu hws
       obtain⟨a0,a11,a12,a13,a14⟩:=HX3.out.at
       rw [HBK.out] at a11
       go_wp2_with (((with_reducible refine z0g (rvK (recK 9 c.sg 0 0 false (0,0,0) 0 1)) HZ3.out ?_ ?_ ?_);rfl;rfl))
       (try simp only [Exit.inBlock,Exit.then])
       refine bodyPost_ret (v:=.agg (rcs (rvK (recK 9 c.sg 0 0 false (0,0,0) 0 1)))) ?_ rfl ⟨by rw [HE.out],below_setRow HB3.out (by have:=HRE.out;omega) _⟩
       exact z0u rfl _ _ (B+2) _ rfl (HZ3.out.set _)
      | false =>
       have hsn:c.st<(n:Int):=by
        have h5:c.st≠(n:Int):=by simpa using HAL.out
        have:=HST.out
        omega
       have HE:Hid (N=recK 2 c.sg id c.st false (0,0,0) 0 0):=hid (by rw [hnb,hbt];simp [hsn])
       clear HNX HBT HWI HTC HOP HUN HST HAL heq hb hbt hnb hsn
       go_enter Tryd.func18,Tryd.ntmps18
       go_upto_region 1 with (fail)
       rw [HW1.out,HRE.out]
       try rw [show B+1+1=B+2 from rfl]
       go_wp2_with ((with_reducible refine z0c HX.out ?_ ?_);rfl)
       refine hgd.mono ?_
       rintro e w2 ⟨rfl,h2⟩
       have HX2:=hid (HX.out.later h2)
       have HT2:=hid (z0a HT.out h2)
       have HZ2:=hid (HZ.out.later h2)
       have HB2:=hid (HB1.out.trans (h2.mono HB1.out.size))
       clear h2 HX HT HZ
       clear hgd
       go_upto_region 3 with (fail)
       have hbd:Below w2.heap.size w2 w2.drew:=(Below.refl _ _).drew
       refine wp_region_held_drew (S:=fun w'=>Hid (Below w2.heap.size w2 w')) (by kernel_rfl) (hid hbd) (fun hHeld=>?_)
       clear hbd
       generalize w2.drew=Wd at *
       refine wpAnyH_take (i:=0) (oi:=⟨some 16,_,_,_,_,_⟩) (v:=.pointer (some ⟨B,12,none⟩)) rfl (by kernel_rfl) (by kernel_rfl) (by kernel_rfl) (fun _ _ _ h=>h) (Or.inl ⟨by rfl,fun w' hw'=>?_⟩) (by assumption) ?_
       · clear hHeld
         go_simp
       try simp only [Act.put,sIB,sCZ,sCS]
       refine wpAnyH_take (i:=1) (oi:=⟨some 17,_,_,_,_,_⟩) (v:=.int .i64 c.st) rfl (by kernel_rfl) (by kernel_rfl) (by kernel_rfl) (fun _ _ _ h=>h) (Or.inl ⟨by rfl,fun w' hw'=>?_⟩) (by assumption) ?_
       · have hcx:=(HX2.out.later hw'.out).at.2.2.1
         clear hHeld hw'
         go_simp
       try simp only [Act.put,sIB,sCZ,sCS]
       refine wpAnyH_take (i:=2) (oi:=⟨some 18,_,_,_,_,_⟩) (v:=.pointer (some ⟨B,1,none⟩)) rfl (by kernel_rfl) (by kernel_rfl) (by kernel_rfl) (fun _ _ _ h=>h) (Or.inl ⟨by rfl,fun w' hw'=>?_⟩) (by assumption) ?_
       · clear hHeld
         go_simp
       try simp only [Act.put,sIB,sCZ,sCS]
       refine wpAnyH_take (i:=3) (oi:=⟨some 19,_,_,_,_,_⟩) (v:=.agg (pcs c.p)) rfl (by kernel_rfl) (by kernel_rfl) (by kernel_rfl) (fun _ _ _ h=>h) (Or.inl ⟨by rfl,fun w' hw'=>z0p rfl (HX2.out.later (Hid.out hw'))⟩) (by assumption) ?_
       try simp only [Act.put,sIB,sCZ,sCS]
       refine wpAnyH_ready (rs:=[4]) (by kernel_rfl) (by simp) (AllReadyH.cons rfl (fun K hK=>?_) (AllReadyH.nil))
       go_simp
       go_wp2_with fail
       refine (HS.out _ (HB2.out.trans (hHeld.out.mono HB2.out.size))).mono ?_
       rintro e w3 ⟨p3,k3,H3,rfl,hs3,hb3⟩
       have hSN:Hid (Below w2.heap.size w2 w3):=hid (hHeld.out.trans (hb3.mono hHeld.out.size))
       clear hb3 hs3
       rw [HN.out]
       go_wp2_with fail
       refine hK.out _ _ hSN (fun hHeld2=>?_)
       try simp only [Act.put,sIB,sCZ,sCS]
       clear hSN hK K hHeld
       have hHeld:=hHeld2
       clear hHeld2
       refine wpAnyH_take (i:=5) (oi:=⟨some 21,_,_,_,_,_⟩) (v:=.int .i64 (n:Int)) rfl (by kernel_rfl) (by kernel_rfl) (by kernel_rfl) (fun _ _ _ h=>h) (Or.inl ⟨by rfl,fun w' hw'=>?_⟩) (by assumption) ?_
       · clear hHeld
         go_simp
       try simp only [Act.put,sIB,sCZ,sCS]
       refine wpAnyH_take (i:=6) (oi:=⟨some 22,_,_,_,_,_⟩) (v:=.bool false) rfl (by kernel_rfl) (by kernel_rfl) (by kernel_rfl) (fun _ _ _ h=>h) (Or.inl ⟨by rfl,fun w' hw'=>?_⟩) (by assumption) ?_
       · clear hHeld
         go_simp
       try simp only [Act.put,sIB,sCZ,sCS]
       refine wpAnyH_take (i:=7) (oi:=⟨some 9,_,_,_,_,_⟩) (v:=.bool false) rfl (by kernel_rfl) (by kernel_rfl) (by kernel_rfl) (fun _ _ _ h=>h) (Or.inl ⟨by rfl,fun w' hw'=>?_⟩) (by assumption) ?_
       · clear hHeld
         go_simp
       try simp only [Act.put,sIB,sCZ,sCS]
       have h3:=hHeld.out
       refine wpAnyH_done (by kernel_rfl) ?_ _
       clear hHeld HS
       have HX3:=hid (HX2.out.later h3)
       have HT3:=hid (z0a HT2.out h3)
       have HZ3:=hid (HZ2.out.later h3)
       have HB3:=hid (HB2.out.trans (h3.mono HB2.out.size))
       clear h3 HX2 HT2 HZ2
       clear hal
       obtain⟨a0,a11,a12,a13,a14⟩:=HX3.out.at
       rw [HBK.out] at a11
       go_wp2_with (((with_reducible refine z0g (rvK (recK 2 c.sg id c.st false (0,0,0) 0 0)) HZ3.out ?_ ?_ ?_);rfl;rfl))
       (try simp only [Exit.inBlock,Exit.then])
       refine bodyPost_ret (v:=.agg (rcs (rvK (recK 2 c.sg id c.st false (0,0,0) 0 0)))) ?_ rfl ⟨by rw [HE.out],below_setRow HB3.out (by have:=HRE.out;omega) _⟩
       exact z0u rfl _ _ (B+2) _ rfl (HZ3.out.set _)
   | true =>
    rw [hb] at HTC HBT
    have HBK:=hid hb
    have hbt:=HBT.out
    rw [HTC.out] at hbt
    have hnb:N=NB:=by rw [HNX.out,if_neg (by omega),if_neg (fun h=>by rw [hb] at h;cases h.1)]
    cases q2:(c.st==0) with
    | true =>
     have hsn:c.st=0:=by simpa using q2
     have HE:Hid (N=recK 9 c.sg 0 0 false (0,0,0) 0 2):=hid (by rw [hnb,hbt];simp [hsn])
     clear HNX HBT HWI HTC HOP HUN HST HAL heq hb hbt hnb hsn
     go_enter Tryd.func18,Tryd.ntmps18
     go_upto_region 1 with (fail)
     rw [HW1.out,HRE.out]
     try rw [show B+1+1=B+2 from rfl]
     go_wp2_with ((with_reducible refine z0c HX.out ?_ ?_);rfl)
     refine hgd.mono ?_
     rintro e w2 ⟨rfl,h2⟩
     have HX2:=hid (HX.out.later h2)
     have HT2:=hid (z0a HT.out h2)
     have HZ2:=hid (HZ.out.later h2)
     have HB2:=hid (HB1.out.trans (h2.mono HB1.out.size))
     clear h2 HX HT HZ
     clear hgd
     go_upto_region 3 with (fail)
     have hbd:Below w2.heap.size w2 w2.drew:=(Below.refl _ _).drew
     refine wp_region_held_drew (S:=fun w'=>Hid (Below w2.heap.size w2 w')) (by kernel_rfl) (hid hbd) (fun hHeld=>?_)
     clear hbd
     generalize w2.drew=Wd at *
     refine wpAnyH_take (i:=0) (oi:=⟨some 16,_,_,_,_,_⟩) (v:=.pointer (some ⟨B,12,none⟩)) rfl (by kernel_rfl) (by kernel_rfl) (by kernel_rfl) (fun _ _ _ h=>h) (Or.inl ⟨by rfl,fun w' hw'=>?_⟩) (by assumption) ?_
     · clear hHeld
       go_simp
     try simp only [Act.put,sIB,sCZ,sCS]
     refine wpAnyH_take (i:=1) (oi:=⟨some 17,_,_,_,_,_⟩) (v:=.int .i64 c.st) rfl (by kernel_rfl) (by kernel_rfl) (by kernel_rfl) (fun _ _ _ h=>h) (Or.inl ⟨by rfl,fun w' hw'=>?_⟩) (by assumption) ?_
     · have hcx:=(HX2.out.later hw'.out).at.2.2.1
       clear hHeld hw'
       go_simp
     try simp only [Act.put,sIB,sCZ,sCS]
     refine wpAnyH_take (i:=2) (oi:=⟨some 18,_,_,_,_,_⟩) (v:=.pointer (some ⟨B,1,none⟩)) rfl (by kernel_rfl) (by kernel_rfl) (by kernel_rfl) (fun _ _ _ h=>h) (Or.inl ⟨by rfl,fun w' hw'=>?_⟩) (by assumption) ?_
     · clear hHeld
       go_simp
     try simp only [Act.put,sIB,sCZ,sCS]
     refine wpAnyH_take (i:=3) (oi:=⟨some 19,_,_,_,_,_⟩) (v:=.agg (pcs c.p)) rfl (by kernel_rfl) (by kernel_rfl) (by kernel_rfl) (fun _ _ _ h=>h) (Or.inl ⟨by rfl,fun w' hw'=>z0p rfl (HX2.out.later (Hid.out hw'))⟩) (by assumption) ?_
     try simp only [Act.put,sIB,sCZ,sCS]
     refine wpAnyH_ready (rs:=[4]) (by kernel_rfl) (by simp) (AllReadyH.cons rfl (fun K hK=>?_) (AllReadyH.nil))
     go_simp
     go_wp2_with fail
     refine (HS.out _ (HB2.out.trans (hHeld.out.mono HB2.out.size))).mono ?_
     rintro e w3 ⟨p3,k3,H3,rfl,hs3,hb3⟩
     have hSN:Hid (Below w2.heap.size w2 w3):=hid (hHeld.out.trans (hb3.mono hHeld.out.size))
     clear hb3 hs3
     rw [HN.out]
     go_wp2_with fail
     refine hK.out _ _ hSN (fun hHeld2=>?_)
     try simp only [Act.put,sIB,sCZ,sCS]
     clear hSN hK K hHeld
     have hHeld:=hHeld2
     clear hHeld2
     refine wpAnyH_take (i:=5) (oi:=⟨some 21,_,_,_,_,_⟩) (v:=.int .i64 (n:Int)) rfl (by kernel_rfl) (by kernel_rfl) (by kernel_rfl) (fun _ _ _ h=>h) (Or.inl ⟨by rfl,fun w' hw'=>?_⟩) (by assumption) ?_
     · clear hHeld
       go_simp
     try simp only [Act.put,sIB,sCZ,sCS]
     refine wpAnyH_take (i:=6) (oi:=⟨some 22,_,_,_,_,_⟩) (v:=.bool al) rfl (by kernel_rfl) (by kernel_rfl) (by kernel_rfl) (fun _ _ _ h=>h) (Or.inl ⟨by rfl,fun w' hw'=>?_⟩) (by assumption) ?_
     · clear hHeld
       go_simp
     try simp only [Act.put,sIB,sCZ,sCS]
     refine wpAnyH_take (i:=7) (oi:=⟨some 9,_,_,_,_,_⟩) (v:=.bool al) rfl (by kernel_rfl) (by kernel_rfl) (by kernel_rfl) (fun _ _ _ h=>h) (Or.inl ⟨by rfl,fun w' hw'=>?_⟩) (by assumption) ?_
     · clear hHeld
       go_simp
     try simp only [Act.put,sIB,sCZ,sCS]
     have h3:=hHeld.out
     refine wpAnyH_done (by kernel_rfl) ?_ _
     clear hHeld HS
     have HX3:=hid (HX2.out.later h3)
     have HT3:=hid (z0a HT2.out h3)
     have HZ3:=hid (HZ2.out.later h3)
     have HB3:=hid (HB2.out.trans (h3.mono HB2.out.size))
     clear h3 HX2 HT2 HZ2
     clear hal hwu hws
     obtain⟨a0,a11,a12,a13,a14⟩:=HX3.out.at
     rw [HBK.out] at a11
     go_wp2_with (((with_reducible refine z0g (rvK (recK 9 c.sg 0 0 false (0,0,0) 0 2)) HZ3.out ?_ ?_ ?_);rfl;rfl))
     (try simp only [Exit.inBlock,Exit.then])
     refine bodyPost_ret (v:=.agg (rcs (rvK (recK 9 c.sg 0 0 false (0,0,0) 0 2)))) ?_ rfl ⟨by rw [HE.out],below_setRow HB3.out (by have:=HRE.out;omega) _⟩
     exact z0u rfl _ _ (B+2) _ rfl (HZ3.out.set _)
    | false =>
     have hsn:0<c.st:=by
      have h5:c.st≠0:=by simpa using q2
      have:=HST.out
      omega
     have hwu2:IntKind.u8.wrap (c.st-1)=c.st-1:=IntWalk.u8_in _ (by have:=HST.out;omega)
     have HE:Hid (N=recK 2 c.sg id (c.st-1) true (0,0,0) 0 0):=hid (by rw [hnb,hbt];simp [hsn])
     clear HNX HBT HWI HTC HOP HUN HST HAL heq hb hbt hnb hsn
     go_enter Tryd.func18,Tryd.ntmps18
     go_upto_region 1 with (fail)
     rw [HW1.out,HRE.out]
     try rw [show B+1+1=B+2 from rfl]
     go_wp2_with ((with_reducible refine z0c HX.out ?_ ?_);rfl)
     refine hgd.mono ?_
     rintro e w2 ⟨rfl,h2⟩
     have HX2:=hid (HX.out.later h2)
     have HT2:=hid (z0a HT.out h2)
     have HZ2:=hid (HZ.out.later h2)
     have HB2:=hid (HB1.out.trans (h2.mono HB1.out.size))
     clear h2 HX HT HZ
     clear hgd
     go_upto_region 3 with (fail)
     have hbd:Below w2.heap.size w2 w2.drew:=(Below.refl _ _).drew
     refine wp_region_held_drew (S:=fun w'=>Hid (Below w2.heap.size w2 w')) (by kernel_rfl) (hid hbd) (fun hHeld=>?_)
     clear hbd
     generalize w2.drew=Wd at *
     refine wpAnyH_take (i:=0) (oi:=⟨some 16,_,_,_,_,_⟩) (v:=.pointer (some ⟨B,12,none⟩)) rfl (by kernel_rfl) (by kernel_rfl) (by kernel_rfl) (fun _ _ _ h=>h) (Or.inl ⟨by rfl,fun w' hw'=>?_⟩) (by assumption) ?_
     · clear hHeld
       go_simp
     try simp only [Act.put,sIB,sCZ,sCS]
     refine wpAnyH_take (i:=1) (oi:=⟨some 17,_,_,_,_,_⟩) (v:=.int .i64 c.st) rfl (by kernel_rfl) (by kernel_rfl) (by kernel_rfl) (fun _ _ _ h=>h) (Or.inl ⟨by rfl,fun w' hw'=>?_⟩) (by assumption) ?_
     · have hcx:=(HX2.out.later hw'.out).at.2.2.1
       clear hHeld hw'
       go_simp
     try simp only [Act.put,sIB,sCZ,sCS]
     refine wpAnyH_take (i:=2) (oi:=⟨some 18,_,_,_,_,_⟩) (v:=.pointer (some ⟨B,1,none⟩)) rfl (by kernel_rfl) (by kernel_rfl) (by kernel_rfl) (fun _ _ _ h=>h) (Or.inl ⟨by rfl,fun w' hw'=>?_⟩) (by assumption) ?_
     · clear hHeld
       go_simp
     try simp only [Act.put,sIB,sCZ,sCS]
     refine wpAnyH_take (i:=3) (oi:=⟨some 19,_,_,_,_,_⟩) (v:=.agg (pcs c.p)) rfl (by kernel_rfl) (by kernel_rfl) (by kernel_rfl) (fun _ _ _ h=>h) (Or.inl ⟨by rfl,fun w' hw'=>z0p rfl (HX2.out.later (Hid.out hw'))⟩) (by assumption) ?_
     try simp only [Act.put,sIB,sCZ,sCS]
     refine wpAnyH_ready (rs:=[4]) (by kernel_rfl) (by simp) (AllReadyH.cons rfl (fun K hK=>?_) (AllReadyH.nil))
     go_simp
     go_wp2_with fail
     refine (HS.out _ (HB2.out.trans (hHeld.out.mono HB2.out.size))).mono ?_
     rintro e w3 ⟨p3,k3,H3,rfl,hs3,hb3⟩
     have hSN:Hid (Below w2.heap.size w2 w3):=hid (hHeld.out.trans (hb3.mono hHeld.out.size))
     clear hb3 hs3
     rw [HN.out]
     go_wp2_with fail
     refine hK.out _ _ hSN (fun hHeld2=>?_)
     try simp only [Act.put,sIB,sCZ,sCS]
     clear hSN hK K hHeld
     have hHeld:=hHeld2
     clear hHeld2
     refine wpAnyH_take (i:=5) (oi:=⟨some 21,_,_,_,_,_⟩) (v:=.int .i64 (n:Int)) rfl (by kernel_rfl) (by kernel_rfl) (by kernel_rfl) (fun _ _ _ h=>h) (Or.inl ⟨by rfl,fun w' hw'=>?_⟩) (by assumption) ?_
     · clear hHeld
       go_simp
     try simp only [Act.put,sIB,sCZ,sCS]
     refine wpAnyH_take (i:=6) (oi:=⟨some 22,_,_,_,_,_⟩) (v:=.bool al) rfl (by kernel_rfl) (by kernel_rfl) (by kernel_rfl) (fun _ _ _ h=>h) (Or.inl ⟨by rfl,fun w' hw'=>?_⟩) (by assumption) ?_
     · clear hHeld
       go_simp
     try simp only [Act.put,sIB,sCZ,sCS]
     refine wpAnyH_take (i:=7) (oi:=⟨some 9,_,_,_,_,_⟩) (v:=.bool al) rfl (by kernel_rfl) (by kernel_rfl) (by kernel_rfl) (fun _ _ _ h=>h) (Or.inl ⟨by rfl,fun w' hw'=>?_⟩) (by assumption) ?_
     · clear hHeld
       go_simp
     try simp only [Act.put,sIB,sCZ,sCS]
     have h3:=hHeld.out
     refine wpAnyH_done (by kernel_rfl) ?_ _
     clear hHeld HS
     have HX3:=hid (HX2.out.later h3)
     have HT3:=hid (z0a HT2.out h3)
     have HZ3:=hid (HZ2.out.later h3)
     have HB3:=hid (HB2.out.trans (h3.mono HB2.out.size))
     clear h3 HX2 HT2 HZ2
     clear hal
     obtain⟨a0,a11,a12,a13,a14⟩:=HX3.out.at
     rw [HBK.out] at a11
     go_wp2_with (((with_reducible refine z0g (rvK (recK 2 c.sg id (c.st-1) true (0,0,0) 0 0)) HZ3.out ?_ ?_ ?_);rfl;rfl))
     (try simp only [Exit.inBlock,Exit.then])
     refine bodyPost_ret (v:=.agg (rcs (rvK (recK 2 c.sg id (c.st-1) true (0,0,0) 0 0)))) ?_ rfl ⟨by rw [HE.out],below_setRow HB3.out (by have:=HRE.out;omega) _⟩
     exact z0u rfl _ _ (B+2) _ rfl (HZ3.out.set _)
end Go.Proofs.YtnpjpelbcmgodaaDoor
