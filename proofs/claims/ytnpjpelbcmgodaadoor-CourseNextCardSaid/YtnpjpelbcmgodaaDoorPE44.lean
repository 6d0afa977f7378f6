import Derived.Test.YtnpjpelbcmgodaaDoorPE99
import Derived.Test.YtnpjpelbcmgodaaDoorPE43
import Derived.Test.YtnpjpelbcmgodaaDoorPE39
import Derived.Test.YtnpjpelbcmgodaaDoorPE37
namespace Go.Proofs.YtnpjpelbcmgodaaDoor
open Go.Lib (hid)
set_option maxHeartbeats 16000000
open Go.RowKit Go.ChangeShapes Go.WideShapes
set_option linter.unusedVariables false
set_option linter.unusedSimpArgs false
set_option maxRecDepth 10000
theorem cr_three8 (W:World) (c:Cv) (t:Tv):∃ W1,((W.alloc (.cells (ccs c) 28)).alloc (.cells #[.int .u32 t.c.id,.int .u32 t.c.sg,.int .u8 t.c.st,.bool t.c.cp,.bool t.c.dd,.slice t.p t.n t.m,.int .i64 t.c.fs,.int .i64 t.c.sz] 36)).alloc (.cells #[.int .u8 0,.int .u32 0,.int .u32 0,.int .u8 0,.bool false,.int .u8 0,.int .u8 0,.int .u8 0,.int .i64 0,.int .u8 0,.int .u8 0,.int .u32 0,.int .u8 0,.slice none 0 0,.slice none 0 0,.slice none 0 0,.int .u8 0,.int .u8 0,.int .u8 0,.int .i64 0] 32)=W1∧CB W1 W.heap.size c∧W1.heap[W.heap.size+1]?=some (.cells #[.int .u32 t.c.id,.int .u32 t.c.sg,.int .u8 t.c.st,.bool t.c.cp,.bool t.c.dd,.slice t.p t.n t.m,.int .i64 t.c.fs,.int .i64 t.c.sz] 36 (0,0))∧RB W1 (W.heap.size+2) rz∧Below W.heap.size W W1:=by
 have hb0:Below W.heap.size W (W.alloc (.cells (ccs c) 28)):=(Below.refl _ _).alloc (Nat.le_refl _) _
 have hs:(W.alloc (.cells (ccs c) 28)).heap.size=W.heap.size+1:=by simp only [World.alloc,Array.size_push]
 have hx:=CB.new W c
 obtain⟨V,hV⟩:∃ V,W.alloc (.cells (ccs c) 28)=V:=⟨_,rfl⟩
 rw [hV] at hb0 hs hx ⊢
 have hb1:Below V.heap.size V (V.alloc (.cells #[.int .u32 t.c.id,.int .u32 t.c.sg,.int .u8 t.c.st,.bool t.c.cp,.bool t.c.dd,.slice t.p t.n t.m,.int .i64 t.c.fs,.int .i64 t.c.sz] 36)):=(Below.refl _ _).alloc (Nat.le_refl _) _
 have ht:=z0d V (.cells #[.int .u32 t.c.id,.int .u32 t.c.sg,.int .u8 t.c.st,.bool t.c.cp,.bool t.c.dd,.slice t.p t.n t.m,.int .i64 t.c.fs,.int .i64 t.c.sz] 36)
 have hs1:(V.alloc (.cells #[.int .u32 t.c.id,.int .u32 t.c.sg,.int .u8 t.c.st,.bool t.c.cp,.bool t.c.dd,.slice t.p t.n t.m,.int .i64 t.c.fs,.int .i64 t.c.sz] 36)).heap.size=W.heap.size+2:=by simp only [World.alloc,Array.size_push];omega
 obtain⟨U,hU⟩:∃ U,V.alloc (.cells #[.int .u32 t.c.id,.int .u32 t.c.sg,.int .u8 t.c.st,.bool t.c.cp,.bool t.c.dd,.slice t.p t.n t.m,.int .i64 t.c.fs,.int .i64 t.c.sz] 36)=U:=⟨_,rfl⟩
 rw [hU] at hb1 ht hs1 ⊢
 rw [hs] at ht
 have hb2:Below U.heap.size U (U.alloc (.cells #[.int .u8 0,.int .u32 0,.int .u32 0,.int .u8 0,.bool false,.int .u8 0,.int .u8 0,.int .u8 0,.int .i64 0,.int .u8 0,.int .u8 0,.int .u32 0,.int .u8 0,.slice none 0 0,.slice none 0 0,.slice none 0 0,.int .u8 0,.int .u8 0,.int .u8 0,.int .i64 0] 32)):=(Below.refl _ _).alloc (Nat.le_refl _) _
 have hz:=RB.new U rz
 rw [hs1] at hz
 have h3:=hb0.trans (hb1.mono hb0.size)
 exact⟨_,rfl,(hx.later hb1).later hb2,z0a ht hb2,hz,h3.trans (hb2.mono h3.size)⟩
theorem z7o (c:Cv) (L:List Ln) (T:List Tk) (M:List Ln) (W:World) (hw:Words W) (hP:CvM W c L T M) (hok:Crok (c.x L T M)) (h1:c.p.ln≤400∧c.p.tn≤400∧c.p.wn≤400) (t:Tv) (retry id:Int) (hT:TvM W t) (hx:∀ o∈t.c.dn,Ook o) (hn:t.n≤1000):Calls Tryd.prog 17 #[.agg (ccs c),.agg #[.int .u32 t.c.id,.int .u32 t.c.sg,.int .u8 t.c.st,.bool t.c.cp,.bool t.c.dd,.slice t.p t.n t.m,.int .i64 t.c.fs,.int .i64 t.c.sz],.int .i64 retry,.int .u32 id] W fun e w'=>e=.returned (.agg (rcs (rvK (z4e (c.x L T M) t.c retry id))))∧Below W.heap.size W w':=by
 obtain⟨W1,hW1,hxb,htb,hz,hb1⟩:=cr_three8 W c t
 obtain⟨B,hB⟩:∃ B,W.heap.size=B:=⟨_,rfl⟩
 rw [hB] at hxb htb hz
 have HX:=hid hxb
 have HT:=hid htb
 have HZ:=hid hz
 have HW1:=hid hW1
 have HB1:=hid hb1
 have HRE:=hid hB
 have hgd:=z6r c L T M W1 (hw.later hb1) (hP.later hb1) hok h1
 cases hg:z2d (c.x L T M) with
 | false =>
  rw [hg] at hgd
  have HE:Hid (z4e (c.x L T M) t.c retry id=noX):=hid (by unfold z4e;rw [if_pos hg])
  generalize z4e (c.x L T M) t.c retry id=N at *
  clear hW1 hxb htb hz hb1 hB hg hw hP hok h1 hT hx hn
  go_enter Tryd.func17,Tryd.ntmps17
  go_wp2_with fail
  refine z2m ?_
  go_upto_region 1 with (fail)
  rw [HW1.out,HRE.out]
  try rw [show B+1+1=B+2 from rfl]
  go_wp2_with ((with_reducible refine z0c HX.out ?_ ?_);rfl)
  refine hgd.mono ?_
  rintro e w2 ⟨rfl,h2⟩
  have HX2:=hid (HX.out.later h2)
  have HT2:=hid (z0a HT.out h2)
  have HZ2:=hid (HZ.out.later h2)
  have HB2:=hid (HB1.out.trans (h2.mono HB1.out.size))
  clear h2 HX HT HZ
  clear hgd
  go_wp2_with (((with_reducible refine z0g (rvK noX) HZ2.out ?_ ?_ ?_);rfl;rfl))
  (try simp only [Exit.inBlock,Exit.then])
  try rw [z5l]
  refine bodyPost_ret (v:=.agg (rcs (rvK noX))) ?_ rfl ⟨by rw [HE.out],below_setRow HB2.out (by have:=HRE.out;omega) _⟩
  exact z0u rfl _ _ (B+2) _ rfl (HZ2.out.set _)
 | true =>
  rw [hg] at hgd
  have HTU:=hid fun w' (hb:Below W.heap.size W w')=>z8c c L T M w' (hw.later hb) (hP.later hb) hok h1 hg
  have HO:=hid (fun W=>cr_outcome c L T M W)
  have HOP:=hid fun w' (hb:Below W.heap.size W w')=>cr_ops c L T M w' (hw.later hb) (hP.later hb) hok h1
  have HUN:=hid fun w' (hb:Below W.heap.size W w')=>cr_undo t w' (hT.later hb) hx hn
  have HNX:Hid (z4e (c.x L T M) t.c retry id=if c.tx≠0 then (if t.c.dd then z5x t.c else z4v (c.x L T M) t.c) else if c.bk=false∧retry<c.tr then recK 8 c.sg 0 0 false (0,0,0) 0 0 else z4c (c.x L T M) id):=hid (by unfold z4e;rw [if_neg (by rw [hg];simp)];rfl)
  have HTL:Hid (t.c.dn.length=t.n):=hid hT.len
  have HAT:=hid (fun h=>z7a (c:=c.x L T M) hg hok.P h)
  have HLL:=hid (z3i hg hok.P)
  have HSL:=hid (z3d (z1q hg).2.1 hok.P).1
  generalize z4e (c.x L T M) t.c retry id=N at *
  have HBT:Hid (z4c (c.x L T M) id=if (z1k (c.x L T M)).2 then recK 2 c.sg id (z1k (c.x L T M)).1 c.bk (0,0,0) 0 0 else recK 9 c.sg 0 0 false (0,0,0) 0 (outC (c.x L T M))):=hid rfl
  have HWI:Hid (z4v (c.x L T M) t.c=if t.c.dn.length<(opsC (c.x L T M)).length then recK 3 0 t.c.id 0 false ((opsC (c.x L T M)).getD t.c.dn.length o0).1 ((opsC (c.x L T M)).getD t.c.dn.length o0).2 0 else recK 4 0 t.c.id 0 false (0,0,0) 0 0):=hid rfl
  rw [HTL.out] at HWI
  have HXP:Hid ((c.x L T M).P=c.p.pg L T M):=hid rfl
  clear hW1 hxb htb hz hb1 hB hg hw hP hok h1 hT hx hn HTL
  generalize c.x L T M=X at *
  generalize opsC X=LO at *
  generalize z4c X id=NB at *
  generalize z4v X t.c=NW at *
  generalize z5x t.c=NU at *
  have HAB:Hid ((z1k X).2=true→(0≤(z1k X).1∧(z1k X).1≤5)∧IntKind.u8.wrap (z1k X).1=(z1k X).1):=hid fun h=>by
   obtain⟨i,hi,hlt,_⟩:=HAT.out h
   have hb:0≤(z1k X).1∧(z1k X).1≤5:=by
    have:=HSL.out
    omega
   exact⟨hb,IntWalk.u8_in _ (by omega)⟩
  obtain⟨a,ha⟩:∃ a,(z1k X).1=a:=⟨_,rfl⟩
  obtain⟨ty,hty⟩:∃ a,(z1k X).2=a:=⟨_,rfl⟩
  obtain⟨o,ho⟩:∃ a,outC X=a:=⟨_,rfl⟩
  rw [ha,hty] at HTU HAB HBT
  rw [ho] at HO HBT
  clear ha hty ho HAT HLL HSL HXP
  cases q1:(c.tx != 0) with
  | true =>
   have hne:c.tx≠0:=bne_iff_ne.1 q1
   obtain⟨dd,hd⟩:∃ dd,t.c.dd=dd:=⟨_,rfl⟩
   cases dd with
   | true =>
    have HE:Hid (N=NU):=hid (by rw [HNX.out,if_pos hne,hd];rfl)
    have HD:=hid hd
    clear HNX HBT HWI HTU HO HOP HAB hne hd
    go_enter Tryd.func17,Tryd.ntmps17
    go_wp2_with fail
    refine z2m ?_
    go_upto_region 1 with (fail)
    rw [HW1.out,HRE.out]
    try rw [show B+1+1=B+2 from rfl]
    go_wp2_with ((with_reducible refine z0c HX.out ?_ ?_);rfl)
    refine hgd.mono ?_
    rintro e w2 ⟨rfl,h2⟩
    have HX2:=hid (HX.out.later h2)
    have HT2:=hid (z0a HT.out h2)
    have HZ2:=hid (HZ.out.later h2)
    have HB2:=hid (HB1.out.trans (h2.mono HB1.out.size))
    clear h2 HX HT HZ
    clear hgd
    have a14:=HX2.out.at.2.2.2.2
    have b4:=(z0h HT2.out).2.2.2.2.1
    rw [HD.out] at b4
    go_upto_region 4 with (fail)
    clear a14 b4
    obtain⟨d0,d1,d2,d3,d4,d5,d6,d7⟩:=z0h HT2.out
    go_wp2_with fail
    refine (HUN.out _ HB2.out).mono ?_
    rintro e w3 ⟨rfl,h3⟩
    clear d0 d1 d2 d3 d4 d5 d6 d7
    have HX3:=hid (HX2.out.later h3)
    have HT3:=hid (z0a HT2.out h3)
    have HZ3:=hid (HZ2.out.later h3)
    have HB3:=hid (HB2.out.trans (h3.mono HB2.out.size))
    clear h3 HX2 HT2 HZ2
    clear HUN
    go_wp2_with (((with_reducible refine z0g (rvK NU) HZ3.out ?_ ?_ ?_);rfl;rfl))
    (try simp only [Exit.inBlock,Exit.then])
    try rw [z5l]
    refine bodyPost_ret (v:=.agg (rcs (rvK NU))) ?_ rfl ⟨by rw [HE.out],below_setRow HB3.out (by have:=HRE.out;omega) _⟩
    exact z0u rfl _ _ (B+2) _ rfl (HZ3.out.set _)
   | false =>
    have HNW:Hid (N=NW):=hid (by rw [HNX.out,if_pos hne,hd];rfl)
    have HNE:Hid (t.n<LO.length→N=recK 3 0 t.c.id 0 false (LO.getD t.n o0).1 (LO.getD t.n o0).2 0):=hid fun h=>by rw [HNW.out,HWI.out,if_pos h]
    have HNF:Hid (¬ t.n<LO.length→N=recK 4 0 t.c.id 0 false (0,0,0) 0 0):=hid fun h=>by rw [HNW.out,HWI.out,if_neg h]
    have HD:=hid hd
    clear HNX HBT HWI HTU HO HUN HAB hne HNW hd
    go_enter Tryd.func17,Tryd.ntmps17
    go_wp2_with fail
    refine z2m ?_
    go_upto_region 1 with (fail)
    rw [HW1.out,HRE.out]
    try rw [show B+1+1=B+2 from rfl]
    go_wp2_with ((with_reducible refine z0c HX.out ?_ ?_);rfl)
    refine hgd.mono ?_
    rintro e w2 ⟨rfl,h2⟩
    have HX2:=hid (HX.out.later h2)
    have HT2:=hid (z0a HT.out h2)
    have HZ2:=hid (HZ.out.later h2)
    have HB2:=hid (HB1.out.trans (h2.mono HB1.out.size))
    clear h2 HX HT HZ
    clear hgd
    have a14:=HX2.out.at.2.2.2.2
    have b4:=(z0h HT2.out).2.2.2.2.1
    rw [HD.out] at b4
    go_wp2_with fail
    clear a14 b4
    go_step3
    (try simp only [Exit.inBlock,Exit.then])
    refine⟨_,by rfl,?_⟩
    go_wp2_with ((with_reducible refine z0c HX2.out ?_ ?_);rfl)
    refine (HOP.out _ HB2.out).mono ?_
    rintro e w3 ⟨p3,k3,rfl,hs3,h3,_⟩
    have hs4:=hs3
    have HX3:=hid (HX2.out.later h3)
    have HT3:=hid (z0a HT2.out h3)
    have HZ3:=hid (HZ2.out.later h3)
    have HB3:=hid (HB2.out.trans (h3.mono HB2.out.size))
    clear h3 HX2 HT2 HZ2
    clear HOP
    have a0:=(z0h HT3.out).1
    have a5:=(z0h HT3.out).2.2.2.2.2.1
    have hc3:=hs3.cap
    obtain⟨n,hn⟩:∃ n,LO.length=n:=⟨_,rfl⟩
    simp only [hn] at hs3 hs4 hc3 ⊢
    have HN:=hid hn
    clear hn hs4
    by_cases hlt:t.n<n
    · have hltz:(t.n:Int)<(n:Int):=by omega
      obtain⟨b,off,rfl,_,k0,k1,k2,k3'⟩:=z2b hs3 hlt
      have hne:=HNE.out (by rw [HN.out];exact hlt)
      generalize LO.getD t.n o0=oo at *
      obtain⟨⟨ka,kb,kc⟩,d⟩:=oo
      dsimp only at k0 k1 k2 k3' hne
      have HE:Hid (N=recK 3 0 t.c.id 0 false (ka,kb,kc) d 0):=hid hne
      have hba:Below w3.heap.size w3 (w3.alloc (.cells #[.int .u8 ka,.int .u8 kb,.int .u8 kc,.int .i64 d] 72)):=(Below.refl _ _).alloc (Nat.le_refl _) _
      have ho4:=z0d w3 (.cells #[.int .u8 ka,.int .u8 kb,.int .u8 kc,.int .i64 d] 72)
      have HZ4:=hid (HZ3.out.later hba)
      have ht4:=z0a HT3.out hba
      have HB4:=hid (HB3.out.trans (hba.mono HB3.out.size))
      obtain⟨G,hG⟩:∃ G,w3.heap.size=G:=⟨_,rfl⟩
      rw [hG] at ho4
      have HG:=hid hG
      clear hba hG hs3 hne HNE HNF HX3 HT3 HZ3
      go_upto_region 16 with (fail)
      rw [HG.out]
      clear k0 k1 k2 k3' a0 a5
      generalize w3.alloc (.cells #[.int .u8 ka,.int .u8 kb,.int .u8 kc,.int .i64 d] 72)=w4 at *
      have a0:=(z0h ht4).1
      have o0:=z0b (j:=0) ho4 (v:=.int .u8 ka) rfl
      have o1:=z0b (j:=1) ho4 (v:=.int .u8 kb) rfl
      have o2:=z0b (j:=2) ho4 (v:=.int .u8 kc) rfl
      have o3:=z0b (j:=3) ho4 (v:=.int .i64 d) rfl
      clear ht4 ho4
      go_wp2_with (((with_reducible refine z0g (rvK (recK 3 0 t.c.id 0 false (ka,kb,kc) d 0)) HZ4.out ?_ ?_ ?_);rfl;rfl))
      (try simp only [Exit.inBlock,Exit.then])
      try rw [Exit.noGoto_ret]
      refine bodyPost_ret (v:=.agg (rcs (rvK (recK 3 0 t.c.id 0 false (ka,kb,kc) d 0)))) ?_ rfl ⟨by rw [HE.out],below_setRow HB4.out (by have:=HRE.out;omega) _⟩
      exact z0u rfl _ _ (B+2) _ rfl (HZ4.out.set _)
    · have hltz:¬ (t.n:Int)<(n:Int):=by omega
      have HE:Hid (N=recK 4 0 t.c.id 0 false (0,0,0) 0 0):=hid (HNF.out (by rw [HN.out];exact hlt))
      clear HNE HNF hs3
      go_wp2_with (((with_reducible refine z0g (rvK (recK 4 0 t.c.id 0 false (0,0,0) 0 0)) HZ3.out ?_ ?_ ?_);rfl;rfl))
      (try simp only [Exit.inBlock,Exit.then])
      try rw [Exit.noGoto_ret]
      refine bodyPost_ret (v:=.agg (rcs (rvK (recK 4 0 t.c.id 0 false (0,0,0) 0 0)))) ?_ rfl ⟨by rw [HE.out],below_setRow HB3.out (by have:=HRE.out;omega) _⟩
      exact z0u rfl _ _ (B+2) _ rfl (HZ3.out.set _)
  | false =>
   have heq:c.tx=0:=by simpa using q1
   cases hb:c.bk with
   | true =>
    have HBE:Hid (N=if ty then recK 2 c.sg id a c.bk (0,0,0) 0 0 else recK 9 c.sg 0 0 false (0,0,0) 0 o):=hid (by rw [HNX.out,if_neg (by omega),if_neg (by rw [hb];simp),HBT.out])
    have HBK:=hid hb
    clear HNX HBT HWI HOP HUN heq hb
    go_enter Tryd.func17,Tryd.ntmps17
    go_wp2_with fail
    refine z2m ?_
    go_upto_region 1 with (fail)
    rw [HW1.out,HRE.out]
    try rw [show B+1+1=B+2 from rfl]
    go_wp2_with ((with_reducible refine z0c HX.out ?_ ?_);rfl)
    refine hgd.mono ?_
    rintro e w2 ⟨rfl,h2⟩
    have HX2:=hid (HX.out.later h2)
    have HT2:=hid (z0a HT.out h2)
    have HZ2:=hid (HZ.out.later h2)
    have HB2:=hid (HB1.out.trans (h2.mono HB1.out.size))
    clear h2 HX HT HZ
    clear hgd
    have a14:=HX2.out.at.2.2.2.2
    have b4:=(z0h HT2.out).2.2.2.2.1
    have a11:=HX2.out.at.2.1
    rw [HBK.out] at a11
    go_wp2_with fail
    clear a14 b4 a11
    go_step3
    (try simp only [Exit.inBlock,Exit.then])
    refine⟨_,by rfl,?_⟩
    go_wp2_with ((with_reducible refine z0c HX2.out ?_ ?_);rfl)
    refine (HTU.out _ HB2.out).mono ?_
    rintro e w3 ⟨rfl,h3⟩
    have HX3:=hid (HX2.out.later h3)
    have HT3:=hid (z0a HT2.out h3)
    have HZ3:=hid (HZ2.out.later h3)
    have HB3:=hid (HB2.out.trans (h3.mono HB2.out.size))
    clear h3 HX2 HT2 HZ2
    clear HTU
    have a0:=HX3.out.at.1
    have a11:=HX3.out.at.2.1
    cases ty
    case true =>
     obtain⟨hab,hwa⟩:=HAB.out rfl
     have HE:Hid (N=recK 2 c.sg id a c.bk (0,0,0) 0 0):=hid (by rw [HBE.out];rfl)
     clear HBE HO
     go_wp2_with (((with_reducible refine z0g (rvK (recK 2 c.sg id a c.bk (0,0,0) 0 0)) HZ3.out ?_ ?_ ?_);rfl;rfl))
     (try simp only [Exit.inBlock,Exit.then])
     try rw [Exit.noGoto_ret]
     refine bodyPost_ret (v:=.agg (rcs (rvK (recK 2 c.sg id a c.bk (0,0,0) 0 0)))) ?_ rfl ⟨by rw [HE.out],below_setRow HB3.out (by have:=HRE.out;omega) _⟩
     exact z0u rfl _ _ (B+2) _ rfl (HZ3.out.set _)
    case false =>
     have HE:Hid (N=recK 9 c.sg 0 0 false (0,0,0) 0 o):=hid (by rw [HBE.out];rfl)
     clear HBE HAB a11
     go_upto_region 12 with (fail)
     have hbd:CB w3.drew B c:=HX3.out
     have HZ4:Hid (RB w3.drew (B+2) rz):=hid HZ3.out
     have HB4:Hid (Below W.heap.size W w3.drew):=hid HB3.out.drew
     refine wp_region_held_drew (S:=fun w'=>Hid (CB w' B c)) (by kernel_rfl) (hid hbd) (fun hHeld=>?_)
     clear hbd a0 HX3 HZ3 HB3 HT3
     generalize w3.drew=Wd at *
     refine wpAnyH_take (i:=0) (oi:=⟨some 57,_,_,_,_,_⟩) (v:=.pointer (some ⟨B,0,none⟩)) rfl (by kernel_rfl) (by kernel_rfl) (by kernel_rfl) (fun _ _ _ h=>h) (Or.inl ⟨by rfl,fun w' hw'=>?_⟩) (by assumption) ?_
     · clear hHeld
       go_simp
     try simp only [Act.put,sIB,sCZ,sCS]
     refine wpAnyH_take (i:=1) (oi:=⟨some 58,_,_,_,_,_⟩) (v:=.int .u32 c.sg) rfl (by kernel_rfl) (by kernel_rfl) (by kernel_rfl) (fun _ _ _ h=>h) (Or.inl ⟨by rfl,fun w' hw'=>?_⟩) (by assumption) ?_
     · have hcx:=hw'.out.at.1
       clear hHeld hw'
       go_simp
     try simp only [Act.put,sIB,sCZ,sCS]
     refine wpAnyH_take (i:=2) (oi:=⟨some 59,_,_,_,_,_⟩) (v:=.agg (ccs c)) rfl (by kernel_rfl) (by kernel_rfl) (by kernel_rfl) (fun _ _ _ h=>h) (Or.inl ⟨by rfl,fun w' hw'=>z1i rfl (Hid.out hw')⟩) (by assumption) ?_
     try simp only [Act.put,sIB,sCZ,sCS]
     refine wpAnyH_ready (rs:=[3]) (by kernel_rfl) (by simp) (AllReadyH.cons rfl (fun K hK=>?_) (AllReadyH.nil))
     go_simp
     go_wp2_with fail
     refine (HO.out _).mono ?_
     rintro e w5 ⟨rfl,h5⟩
     have hSN:Hid (CB w5 B c):=hid (hHeld.out.later h5)
     have HZ5:=hid (HZ4.out.later h5)
     have HB5:=hid (HB4.out.trans (h5.mono HB4.out.size))
     clear h5 HZ4 HB4 HO
     go_wp2_with fail
     refine hK.out _ _ hSN (fun hHeld2=>?_)
     try simp only [Act.put,sIB,sCZ,sCS]
     clear hSN hK K hHeld
     have hHeld:=hHeld2
     clear hHeld2
     refine wpAnyH_take (i:=4) (oi:=⟨some 61,_,_,_,_,_⟩) (v:=.agg #[.int .u8 9,.int .u32 c.sg,.int .u32 0,.int .u8 0,.bool false,.int .u8 0,.int .u8 0,.int .u8 0,.int .i64 0,.int .u8 o,.int .u8 0,.int .u32 0,.int .u8 0,.slice none 0 0,.slice none 0 0,.slice none 0 0,.int .u8 0,.int .u8 0,.int .u8 0,.int .i64 0]) rfl (by kernel_rfl) (by kernel_rfl) (by kernel_rfl) (fun _ _ _ h=>h) (Or.inl ⟨by rfl,fun w' hw'=>?_⟩) (by assumption) ?_
     · clear hHeld
       go_simp
     try simp only [Act.put,sIB,sCZ,sCS]
     refine wpAnyH_ready (rs:=[5]) (by kernel_rfl) (by simp) (AllReadyH.cons rfl (fun K hK=>?_) (AllReadyH.nil))
     rw [if_pos (by rfl)]
     refine wp_store_row 32 _ _ rfl (B+2) (rcs (rvK (recK 9 c.sg 0 0 false (0,0,0) 0 o))) rfl rfl 32 _ HZ5.out (by kernel_rfl) rfl (z7w _) ?_
     have HZ6:Hid (RB (w5.setRow (B+2) (rcs (rvK (recK 9 c.sg 0 0 false (0,0,0) 0 o)))) (B+2) (rvK (recK 9 c.sg 0 0 false (0,0,0) 0 o))):=hid (HZ5.out.set _)
     have hSN:Hid (CB (w5.setRow (B+2) (rcs (rvK (recK 9 c.sg 0 0 false (0,0,0) 0 o)))) B c):=hid (hHeld.out.chg (S:=fun k=>k=B+2) ⟨rfl,rfl,rfl,by simp [World.setRow],fun k _ hn=>setRow_other _ _ _ _ hn⟩ (by omega))
     have HB6:Hid (Below W.heap.size W (w5.setRow (B+2) (rcs (rvK (recK 9 c.sg 0 0 false (0,0,0) 0 o))))):=hid (below_setRow HB5.out (by have:=HRE.out;omega) _)
     clear HZ5 HB5
     generalize w5.setRow (B+2) (rcs (rvK (recK 9 c.sg 0 0 false (0,0,0) 0 o)))=w6 at *
     refine hK.out _ _ hSN (fun hHeld2=>?_)
     try simp only [Act.put,sIB,sCZ,sCS]
     clear hSN hK K hHeld
     have hHeld:=hHeld2
     clear hHeld2
     refine wpAnyH_done (by kernel_rfl) ?_ _
     clear hHeld
     go_wp2_with fail
     (try simp only [Exit.inBlock,Exit.then])
     try rw [Exit.noGoto_ret]
     refine bodyPost_ret (v:=.agg (rcs (rvK (recK 9 c.sg 0 0 false (0,0,0) 0 o)))) ?_ rfl ⟨by rw [HE.out],HB6.out⟩
     exact z0u rfl _ _ (B+2) _ rfl HZ6.out
   | false =>
    by_cases hr:retry<c.tr
    · have HE:Hid (N=recK 8 c.sg 0 0 false (0,0,0) 0 0):=hid (by rw [HNX.out,if_neg (by omega),if_pos ⟨hb,hr⟩])
      have HBK:=hid hb
      clear HNX HBT HWI HOP HUN HTU HO HAB heq hb
      go_enter Tryd.func17,Tryd.ntmps17
      go_wp2_with fail
      refine z2m ?_
      go_upto_region 1 with (fail)
      rw [HW1.out,HRE.out]
      try rw [show B+1+1=B+2 from rfl]
      go_wp2_with ((with_reducible refine z0c HX.out ?_ ?_);rfl)
      refine hgd.mono ?_
      rintro e w2 ⟨rfl,h2⟩
      have HX2:=hid (HX.out.later h2)
      have HT2:=hid (z0a HT.out h2)
      have HZ2:=hid (HZ.out.later h2)
      have HB2:=hid (HB1.out.trans (h2.mono HB1.out.size))
      clear h2 HX HT HZ
      clear hgd
      have a14:=HX2.out.at.2.2.2.2
      have b4:=(z0h HT2.out).2.2.2.2.1
      obtain⟨a0,a11,a12,a13,_⟩:=HX2.out.at
      rw [HBK.out] at a11
      go_wp2_with (((with_reducible refine z0g (rvK (recK 8 c.sg 0 0 false (0,0,0) 0 0)) HZ2.out ?_ ?_ ?_);rfl;rfl))
      (try simp only [Exit.inBlock,Exit.then])
      try rw [z5l]
      refine bodyPost_ret (v:=.agg (rcs (rvK (recK 8 c.sg 0 0 false (0,0,0) 0 0)))) ?_ rfl ⟨by rw [HE.out],below_setRow HB2.out (by have:=HRE.out;omega) _⟩
      exact z0u rfl _ _ (B+2) _ rfl (HZ2.out.set _)
    · have HBE:Hid (N=if ty then recK 2 c.sg id a c.bk (0,0,0) 0 0 else recK 9 c.sg 0 0 false (0,0,0) 0 o):=hid (by rw [HNX.out,if_neg (by omega),if_neg (fun h=>hr h.2),HBT.out])
      have HBK:=hid hb
      clear HNX HBT HWI HOP HUN heq hb
      go_enter Tryd.func17,Tryd.ntmps17
      go_wp2_with fail
      refine z2m ?_
      go_upto_region 1 with (fail)
      rw [HW1.out,HRE.out]
      try rw [show B+1+1=B+2 from rfl]
      go_wp2_with ((with_reducible refine z0c HX.out ?_ ?_);rfl)
      refine hgd.mono ?_
      rintro e w2 ⟨rfl,h2⟩
      have HX2:=hid (HX.out.later h2)
      have HT2:=hid (z0a HT.out h2)
      have HZ2:=hid (HZ.out.later h2)
      have HB2:=hid (HB1.out.trans (h2.mono HB1.out.size))
      clear h2 HX HT HZ
      clear hgd
      have a14:=HX2.out.at.2.2.2.2
      have b4:=(z0h HT2.out).2.2.2.2.1
      obtain⟨a0,a11,a12,a13,_⟩:=HX2.out.at
      rw [HBK.out] at a11
      go_wp2_with fail
      clear a14 b4 a0 a11 a12 a13
      go_step3
      go_wp2_with ((with_reducible refine z0c HX2.out ?_ ?_);rfl)
      refine (HTU.out _ HB2.out).mono ?_
      rintro e w3 ⟨rfl,h3⟩
      have HX3:=hid (HX2.out.later h3)
      have HT3:=hid (z0a HT2.out h3)
      have HZ3:=hid (HZ2.out.later h3)
      have HB3:=hid (HB2.out.trans (h3.mono HB2.out.size))
      clear h3 HX2 HT2 HZ2
      clear HTU
      have a0:=HX3.out.at.1
      have a11:=HX3.out.at.2.1
      cases ty
      case true =>
       obtain⟨hab,hwa⟩:=HAB.out rfl
       have HE:Hid (N=recK 2 c.sg id a c.bk (0,0,0) 0 0):=hid (by rw [HBE.out];rfl)
       clear HBE HO
       go_wp2_with (((with_reducible refine z0g (rvK (recK 2 c.sg id a c.bk (0,0,0) 0 0)) HZ3.out ?_ ?_ ?_);rfl;rfl))
       (try simp only [Exit.inBlock,Exit.then])
       try rw [z5l]
       refine bodyPost_ret (v:=.agg (rcs (rvK (recK 2 c.sg id a c.bk (0,0,0) 0 0)))) ?_ rfl ⟨by rw [HE.out],below_setRow HB3.out (by have:=HRE.out;omega) _⟩
       exact z0u rfl _ _ (B+2) _ rfl (HZ3.out.set _)
      case false =>
       have HE:Hid (N=recK 9 c.sg 0 0 false (0,0,0) 0 o):=hid (by rw [HBE.out];rfl)
       clear HBE HAB a11
       go_upto_region 12 with (fail)
       have hbd:CB w3.drew B c:=HX3.out
       have HZ4:Hid (RB w3.drew (B+2) rz):=hid HZ3.out
       have HB4:Hid (Below W.heap.size W w3.drew):=hid HB3.out.drew
       refine wp_region_held_drew (S:=fun w'=>Hid (CB w' B c)) (by kernel_rfl) (hid hbd) (fun hHeld=>?_)
       clear hbd a0 HX3 HZ3 HB3 HT3
       generalize w3.drew=Wd at *
       refine wpAnyH_take (i:=0) (oi:=⟨some 57,_,_,_,_,_⟩) (v:=.pointer (some ⟨B,0,none⟩)) rfl (by kernel_rfl) (by kernel_rfl) (by kernel_rfl) (fun _ _ _ h=>h) (Or.inl ⟨by rfl,fun w' hw'=>?_⟩) (by assumption) ?_
       · clear hHeld
         go_simp
       try simp only [Act.put,sIB,sCZ,sCS]
       refine wpAnyH_take (i:=1) (oi:=⟨some 58,_,_,_,_,_⟩) (v:=.int .u32 c.sg) rfl (by kernel_rfl) (by kernel_rfl) (by kernel_rfl) (fun _ _ _ h=>h) (Or.inl ⟨by rfl,fun w' hw'=>?_⟩) (by assumption) ?_
       · have hcx:=hw'.out.at.1
         clear hHeld hw'
         go_simp
       try simp only [Act.put,sIB,sCZ,sCS]
       refine wpAnyH_take (i:=2) (oi:=⟨some 59,_,_,_,_,_⟩) (v:=.agg (ccs c)) rfl (by kernel_rfl) (by kernel_rfl) (by kernel_rfl) (fun _ _ _ h=>h) (Or.inl ⟨by rfl,fun w' hw'=>z1i rfl (Hid.out hw')⟩) (by assumption) ?_
       try simp only [Act.put,sIB,sCZ,sCS]
       refine wpAnyH_ready (rs:=[3]) (by kernel_rfl) (by simp) (AllReadyH.cons rfl (fun K hK=>?_) (AllReadyH.nil))
       go_simp
       go_wp2_with fail
       refine (HO.out _).mono ?_
       rintro e w5 ⟨rfl,h5⟩
       have hSN:Hid (CB w5 B c):=hid (hHeld.out.later h5)
       have HZ5:=hid (HZ4.out.later h5)
       have HB5:=hid (HB4.out.trans (h5.mono HB4.out.size))
       clear h5 HZ4 HB4 HO
       go_wp2_with fail
       refine hK.out _ _ hSN (fun hHeld2=>?_)
       try simp only [Act.put,sIB,sCZ,sCS]
       clear hSN hK K hHeld
       have hHeld:=hHeld2
       clear hHeld2
       refine wpAnyH_take (i:=4) (oi:=⟨some 61,_,_,_,_,_⟩) (v:=.agg #[.int .u8 9,.int .u32 c.sg,.int .u32 0,.int .u8 0,.bool false,.int .u8 0,.int .u8 0,.int .u8 0,.int .i64 0,.int .u8 o,.int .u8 0,.int .u32 0,.int .u8 0,.slice none 0 0,.slice none 0 0,.slice none 0 0,.int .u8 0,.int .u8 0,.int .u8 0,.int .i64 0]) rfl (by kernel_rfl) (by kernel_rfl) (by kernel_rfl) (fun _ _ _ h=>h) (Or.inl ⟨by rfl,fun w' hw'=>?_⟩) (by assumption) ?_
       · clear hHeld
         go_simp
       try simp only [Act.put,sIB,sCZ,sCS]
       refine wpAnyH_ready (rs:=[5]) (by kernel_rfl) (by simp) (AllReadyH.cons rfl (fun K hK=>?_) (AllReadyH.nil))
       rw [if_pos (by rfl)]
       refine wp_store_row 32 _ _ rfl (B+2) (rcs (rvK (recK 9 c.sg 0 0 false (0,0,0) 0 o))) rfl rfl 32 _ HZ5.out (by kernel_rfl) rfl (z7w _) ?_
       have HZ6:Hid (RB (w5.setRow (B+2) (rcs (rvK (recK 9 c.sg 0 0 false (0,0,0) 0 o)))) (B+2) (rvK (recK 9 c.sg 0 0 false (0,0,0) 0 o))):=hid (HZ5.out.set _)
       have hSN:Hid (CB (w5.setRow (B+2) (rcs (rvK (recK 9 c.sg 0 0 false (0,0,0) 0 o)))) B c):=hid (hHeld.out.chg (S:=fun k=>k=B+2) ⟨rfl,rfl,rfl,by simp [World.setRow],fun k _ hn=>setRow_other _ _ _ _ hn⟩ (by omega))
       have HB6:Hid (Below W.heap.size W (w5.setRow (B+2) (rcs (rvK (recK 9 c.sg 0 0 false (0,0,0) 0 o))))):=hid (below_setRow HB5.out (by have:=HRE.out;omega) _)
       clear HZ5 HB5
       generalize w5.setRow (B+2) (rcs (rvK (recK 9 c.sg 0 0 false (0,0,0) 0 o)))=w6 at *
       refine hK.out _ _ hSN (fun hHeld2=>?_)
       try simp only [Act.put,sIB,sCZ,sCS]
       clear hSN hK K hHeld
       have hHeld:=hHeld2
       clear hHeld2
       refine wpAnyH_done (by kernel_rfl) ?_ _
       clear hHeld
       go_wp2_with fail
       (try simp only [Exit.inBlock,Exit.then])
       try rw [z5l]
       refine bodyPost_ret (v:=.agg (rcs (rvK (recK 9 c.sg 0 0 false (0,0,0) 0 o)))) ?_ rfl ⟨by rw [HE.out],HB6.out⟩
       exact z0u rfl _ _ (B+2) _ rfl HZ6.out
abbrev cwP:Pg:=⟨3,1,0,[],[(1,0,0,2)],[],0,0,0,0⟩
abbrev cwC:Crs:=⟨4,cwP,false,0,0,0⟩
theorem cw_0:z6t ⟨1,4,0,0,false,(0,0,0),0,0,cwP⟩=(cwC,0):=by
 unfold z6t
 rw [if_pos ⟨rfl,by kernel_rfl⟩]
theorem cw_1:z4e ⟨4,cwP,false,0,2,0⟩ tc0 2 9=recK 2 4 9 0 false (0,0,0) 0 0:=by kernel_rfl
theorem cw_2:z4e ⟨4,cwP,false,0,3,0⟩ tc0 2 9=recK 8 4 0 0 false (0,0,0) 0 0:=by kernel_rfl
theorem cw_3:appX ⟨4,cwP,false,0,3,0⟩ (recK 8 4 0 0 false (0,0,0) 0 0)=(⟨4,cwP,true,0,3,0⟩,0):=by kernel_rfl
theorem cw_4:z4e ⟨4,cwP,true,0,3,0⟩ tc0 2 9=recK 9 4 0 0 false (0,0,0) 0 2:=by kernel_rfl
theorem cw_pok:Pgok cwP:=⟨by decide,by decide,by decide,(fun x hx=>by cases hx),(fun x hx=>by
 obtain rfl:=List.mem_singleton.1 hx
 exact⟨by decide,by decide,by decide,by unfold In64;decide⟩),(fun x hx=>by cases hx),by decide,by decide,by decide,by unfold In64;decide⟩
theorem z8u (b:Bool) (r:Int) (h:0≤r∧r≤3):Crok ⟨4,cwP,b,0,r,0⟩:=⟨by simp only;omega,cw_pok,by unfold In64;simp only;omega,by unfold In64;simp only;omega,by simp only;omega⟩
theorem cw_xok:Rxok ⟨1,4,0,0,false,(0,0,0),0,0,cwP⟩:=⟨by decide,by decide,by decide,by decide,⟨by decide,by decide,by decide⟩,by unfold In64;decide,by decide,cw_pok⟩
theorem cr_new0 (w:World) (c:Cv):CB ((w.alloc (.cells #[.int .u32 0,.int .u8 0,.int .u32 0,.int .u8 0,.slice none 0 0,.slice none 0 0,.slice none 0 0,.int .u8 0,.int .u8 0,.int .u8 0,.int .i64 0,.bool false,.int .i64 0,.int .i64 0,.int .u32 0] 28)).setRow w.heap.size (ccs c)) w.heap.size c∧Below w.heap.size w ((w.alloc (.cells #[.int .u32 0,.int .u8 0,.int .u32 0,.int .u8 0,.slice none 0 0,.slice none 0 0,.slice none 0 0,.int .u8 0,.int .u8 0,.int .u8 0,.int .i64 0,.bool false,.int .i64 0,.int .i64 0,.int .u32 0] 28)).setRow w.heap.size (ccs c)) :=
 ⟨(CB.new w cz).set c,below_setRow ((Below.refl _ _).alloc (Nat.le_refl _) _) (Nat.le_refl _) _⟩
theorem z7x (w:World) (r:Rv):RB ((w.alloc (.cells #[.int .u8 0,.int .u32 0,.int .u32 0,.int .u8 0,.bool false,.int .u8 0,.int .u8 0,.int .u8 0,.int .i64 0,.int .u8 0,.int .u8 0,.int .u32 0,.int .u8 0,.slice none 0 0,.slice none 0 0,.slice none 0 0,.int .u8 0,.int .u8 0,.int .u8 0,.int .i64 0] 32)).setRow w.heap.size (rcs r)) w.heap.size r∧Below w.heap.size w ((w.alloc (.cells #[.int .u8 0,.int .u32 0,.int .u32 0,.int .u8 0,.bool false,.int .u8 0,.int .u8 0,.int .u8 0,.int .i64 0,.int .u8 0,.int .u8 0,.int .u32 0,.int .u8 0,.slice none 0 0,.slice none 0 0,.slice none 0 0,.int .u8 0,.int .u8 0,.int .u8 0,.int .i64 0] 32)).setRow w.heap.size (rcs r)) :=
 ⟨(RB.new w rz).set r,below_setRow ((Below.refl _ _).alloc (Nat.le_refl _) _) (Nat.le_refl _) _⟩
theorem cw_keep {w w':World} {c:Cv} {A:Nat} (h:CvM w c [] [(1,0,0,2)] []) (hlt:∀ a,c.p.tp=some a→a.block<A) (hs:w.heap.size≤w'.heap.size) (hb:∀ k,k<w.heap.size→¬ k=A→w'.heap[k]?=w.heap[k]?):CvM w' c [] [(1,0,0,2)] [] :=
 ⟨h.l.turn hs (fun h0 a ha hl=>by have:=h.l.len;simp at this;omega),h.t.turn hs (fun _ a ha hl=>hb _ hl (by have:=hlt a ha;omega)),h.o.turn hs (fun h0 a ha hl=>by have:=h.o.len;simp at this;omega)⟩
theorem z7n {w:World} {c:Cv} {T:List Tk} {L M:List Ln} (h:CvM w c L T M) (h1:L.length≤400) (h2:T.length≤400) (h3:M.length≤400):c.p.ln≤400∧c.p.tn≤400∧c.p.wn≤400:=by
 have:=h.l.len
 have:=h.t.len
 have:=h.o.len
 omega
theorem cx_lists {c:Cv} {L:List Ln} {T:List Tk} {M:List Ln} {sg st tr tx:Int} {b:Bool} (h:c.x L T M=⟨sg,cwP,b,st,tr,tx⟩):L=[]∧T=[(1,0,0,2)]∧M=[]:=by
 have hp:c.p.pg L T M=cwP:=congrArg Crs.P h
 exact⟨congrArg Pg.lines hp,congrArg Pg.takes hp,congrArg Pg.owes hp⟩
set_option maxRecDepth 100000 in
theorem cr_works (W:World) (hw:Words W):Calls Tryd.prog 8 #[] W fun e w'=>e=.returned (.bool true)∧Below W.heap.size W w':=by
 have HW:=hid fun w' (hb:Below W.heap.size W w')=>hw.later hb
 obtain⟨G,hG⟩:∃ G,W.heap.size=G:=⟨_,rfl⟩
 have HG:=hid hG
 obtain⟨W1,hW1,hb1⟩:∃ W1,W.alloc (.cells #[.int .u32 1,.int .u8 0,.int .u8 0,.int .i64 2] 60)=W1∧Below W.heap.size W W1:=⟨_,rfl,(Below.refl _ _).alloc (Nat.le_refl _) _⟩
 have hblk:=z0d W (.cells #[.int .u32 1,.int .u8 0,.int .u8 0,.int .i64 2] 60)
 rw [hW1] at hblk
 have hT:TKL W1 (some ⟨W.heap.size,0,none⟩) 1 1 [(1,0,0,2)]:=by
  refine⟨rfl,Nat.le_refl _,by decide,(fun h=>by cases h),fun _=>⟨_,_,rfl,z1b hblk,fun j hj i v hv=>?_⟩⟩
  obtain rfl:j=0:=by omega
  show W1.cell? ⟨W.heap.size,0+0*4+i,none⟩=some v
  simp only [Nat.zero_mul,Nat.zero_add]
  exact z0b hblk (by simpa [tkc,tk0] using hv)
 rw [hG] at hT
 obtain⟨r0,hr0⟩:∃ r0:Rv,r0=⟨1,4,0,0,false,0,0,0,0,0,3,1,0,none,0,0,some ⟨G,0,none⟩,1,1,none,0,0,0,0,0,0⟩:=⟨_,rfl⟩
 have hx0:r0.x [] [(1,0,0,2)] []=⟨1,4,0,0,false,(0,0,0),0,0,cwP⟩:=by rw [hr0];rfl
 have hS:=cr_start r0 [] [(1,0,0,2)] [] W1 (hw.later hb1) (by rw [hr0];exact⟨SlG.empty _,hT,SlG.empty _⟩) (by rw [hx0];exact cw_xok) (by rw [hr0];exact⟨by simp only;omega,by simp only;omega,by simp only;omega⟩)
 rw [hx0,cw_0] at hS
 have HS:Hid (Calls Tryd.prog 11 #[.agg #[.int .u8 1,.int .u32 4,.int .u32 0,.int .u8 0,.bool false,.int .u8 0,.int .u8 0,.int .u8 0,.int .i64 0,.int .u8 0,.int .u8 3,.int .u32 1,.int .u8 0,.slice none 0 0,.slice (some ⟨G,0,none⟩) 1 1,.slice none 0 0,.int .u8 0,.int .u8 0,.int .u8 0,.int .i64 0]] W1 (z8e W1 cwC 0)):=hid (by rw [hr0] at hS;exact hS)
 have HB1:=hid hb1
 have HW1:=hid hW1
 clear hw hW1 hb1 hblk hT hr0 hS hx0 hG
 go_enter Tryd.func8,Tryd.ntmps8
 go_wp2_with fail
 rw [HW1.out,HG.out]
 refine HS.out.mono ?_
 rintro e w2 ⟨c,L,T,M,rfl,hm2,hx2,h2⟩
 obtain⟨rfl,rfl,rfl⟩:=cx_lists hx2
 have HLT0:Hid (∀ a,c.p.tp=some a→a.block<w2.heap.size):=hid (fun a ha=>by
  have h1:=hm2.t.len
  obtain⟨b,off,hp,hb,_⟩:=hm2.t.cell (by rw [← h1];decide)
  rw [hp] at ha
  cases ha
  exact hb)
 have HM2:=hid hm2
 have HX2:=hid hx2
 have HB2:=hid (HB1.out.trans (h2.mono HB1.out.size))
 clear hm2 hx2 h2 HS
 obtain⟨hc3,hb3⟩:=cr_new0 w2 c
 obtain⟨w3,hw3⟩:∃ w3,(w2.alloc (.cells #[.int .u32 0,.int .u8 0,.int .u32 0,.int .u8 0,.slice none 0 0,.slice none 0 0,.slice none 0 0,.int .u8 0,.int .u8 0,.int .u8 0,.int .i64 0,.bool false,.int .i64 0,.int .i64 0,.int .u32 0] 28)).setRow w2.heap.size (ccs c)=w3:=⟨_,rfl⟩
 obtain⟨A,hA⟩:∃ A,w2.heap.size=A:=⟨_,rfl⟩
 have hz2:CB (w2.alloc (.cells #[.int .u32 0,.int .u8 0,.int .u32 0,.int .u8 0,.slice none 0 0,.slice none 0 0,.slice none 0 0,.int .u8 0,.int .u8 0,.int .u8 0,.int .i64 0,.bool false,.int .i64 0,.int .i64 0,.int .u32 0] 28)) w2.heap.size cz:=CB.new w2 cz
 rw [hw3] at hc3 hb3
 have HZ2:=hid hz2
 have HW3:=hid hw3
 have HAA:=hid hA
 rw [hA] at hc3
 have HC3:=hid hc3
 have HM3:=hid (HM2.out.later hb3)
 have HB3:=hid (HB2.out.trans (hb3.mono HB2.out.size))
 have HAW:Hid (W.heap.size≤A):=hid (by rw [← hA];exact HB2.out.size)
 rw [hA] at HLT0
 clear hc3 hb3 hw3 hA hz2 HM2
 go_upto_region 2 with ((with_reducible refine z0m c HZ2.out ?_ ?_ ?_);rfl;rfl)
 rw [HW3.out,HAA.out]
 clear HZ2 HW3 HAA HB2
 have HLT:Hid (∀ a,c.p.tp=some a→a.block<A):=hid (fun a ha=>HLT0.out a ha)
 have f13:=HC3.out.free 13
 have a13:=HC3.out.at.2.2.2.1
 have HC4:Hid (CB (w3.setCell ⟨A,13,none⟩ (.int .i64 2)) A { c with tr:=2 }):=hid (HC3.out.put 13 _ _ rfl)
 have hch:Chg (fun k=>k=A) w3 (w3.setCell ⟨A,13,none⟩ (.int .i64 2)):=(Chg.refl _ _).setCell _ _ fun _=>rfl
 have HM4:Hid (CvM (w3.setCell ⟨A,13,none⟩ (.int .i64 2)) { c with tr:=2 } [] [(1,0,0,2)] []):=hid (cw_keep (c:={ c with tr:=2 }) HM3.out HLT.out hch.size hch.block)
 have HB4:Hid (Below W.heap.size W (w3.setCell ⟨A,13,none⟩ (.int .i64 2))):=hid (Chg.below HB3.out HB3.out.size hch fun k hk=>by rw [hk];exact HAW.out)
 clear hch
 go_upto_region 3 with (fail)
 clear f13 a13 HC3 HM3 HB3
 generalize w3.setCell ⟨A,13,none⟩ (.int .i64 2)=w4 at *
 have hx4:({ c with tr:=2 }:Cv).x [] [(1,0,0,2)] []=⟨4,cwP,false,0,2,0⟩:=by rw [show ({ c with tr:=2 }:Cv).x [] [(1,0,0,2)] []={ c.x [] [(1,0,0,2)] [] with tr:=2 } from rfl,HX2.out]
 have hn:=z7o { c with tr:=2 } [] [(1,0,0,2)] [] w4 (HW.out _ HB4.out) HM4.out (by rw [hx4];exact z8u _ _ ⟨by omega,by omega⟩) (z7n HM4.out (by simp) (by simp) (by simp)) tv0 2 9 (z8v _) (fun o ho=>by cases ho) (by decide)
 rw [hx4,show tv0.c=tc0 from rfl,cw_1] at hn
 go_wp2_with ((with_reducible refine z0c HC4.out ?_ ?_);rfl)
 refine hn.mono ?_
 rintro e w5 ⟨rfl,h5⟩
 have HC5:=hid (HC4.out.later h5)
 have HM5:=hid (HM4.out.later h5)
 have HB5:=hid (HB4.out.trans (h5.mono HB4.out.size))
 clear h5 hn HB4 HC4 HM4
 obtain⟨hr6,hb6⟩:=z7x w5 (rvK (recK 2 4 9 0 false (0,0,0) 0 0))
 obtain⟨w6,hw6⟩:∃ w6,(w5.alloc (.cells #[.int .u8 0,.int .u32 0,.int .u32 0,.int .u8 0,.bool false,.int .u8 0,.int .u8 0,.int .u8 0,.int .i64 0,.int .u8 0,.int .u8 0,.int .u32 0,.int .u8 0,.slice none 0 0,.slice none 0 0,.slice none 0 0,.int .u8 0,.int .u8 0,.int .u8 0,.int .i64 0] 32)).setRow w5.heap.size (rcs (rvK (recK 2 4 9 0 false (0,0,0) 0 0)))=w6:=⟨_,rfl⟩
 obtain⟨R,hR⟩:∃ R,w5.heap.size=R:=⟨_,rfl⟩
 have hz5:RB (w5.alloc (.cells #[.int .u8 0,.int .u32 0,.int .u32 0,.int .u8 0,.bool false,.int .u8 0,.int .u8 0,.int .u8 0,.int .i64 0,.int .u8 0,.int .u8 0,.int .u32 0,.int .u8 0,.slice none 0 0,.slice none 0 0,.slice none 0 0,.int .u8 0,.int .u8 0,.int .u8 0,.int .i64 0] 32)) w5.heap.size rz:=RB.new w5 rz
 rw [hw6] at hr6 hb6
 rw [hR] at hr6
 have HZ5:=hid hz5
 have HW6:=hid hw6
 have HRR:=hid hR
 have HR6:=hid hr6
 have HC6:=hid (HC5.out.later hb6)
 have HM6:=hid (HM5.out.later hb6)
 have HB6:=hid (HB5.out.trans (hb6.mono HB5.out.size))
 have HNR:Hid (A<R):=hid (by rw [← hR];exact HC5.out.lt)
 clear hr6 hb6 hw6 hR hz5 HB5 HC5 HM5
 go_upto_region 4 with ((with_reducible refine z0g (rvK (recK 2 4 9 0 false (0,0,0) 0 0)) HZ5.out ?_ ?_ ?_);rfl;rfl)
 rw [HW6.out,HRR.out]
 clear HZ5 HW6 HRR
 clear hx4
 have f13:=HC6.out.free 13
 have a13:=HC6.out.at.2.2.2.1
 have HC7:Hid (CB (w6.setCell ⟨A,13,none⟩ (.int .i64 3)) A { c with tr:=3 }):=hid (HC6.out.put 13 _ _ rfl)
 have hch:Chg (fun k=>k=A) w6 (w6.setCell ⟨A,13,none⟩ (.int .i64 3)):=(Chg.refl _ _).setCell _ _ fun _=>rfl
 have HM7:Hid (CvM (w6.setCell ⟨A,13,none⟩ (.int .i64 3)) { c with tr:=3 } [] [(1,0,0,2)] []):=hid (cw_keep (c:={ c with tr:=3 }) HM6.out HLT.out hch.size hch.block)
 have HB7:Hid (Below W.heap.size W (w6.setCell ⟨A,13,none⟩ (.int .i64 3))):=hid (Chg.below HB6.out HB6.out.size hch fun k hk=>by rw [hk];exact HAW.out)
 have HR7:=hid (HR6.out.chg hch (by have:=HNR.out;omega))
 clear hch
 go_upto_region 5 with (fail)
 clear f13 a13 HC6 HM6 HB6 HR6
 generalize w6.setCell ⟨A,13,none⟩ (.int .i64 3)=w7 at *
 have hx7:({ c with tr:=3 }:Cv).x [] [(1,0,0,2)] []=⟨4,cwP,false,0,3,0⟩:=by rw [show ({ c with tr:=3 }:Cv).x [] [(1,0,0,2)] []={ c.x [] [(1,0,0,2)] [] with tr:=3 } from rfl,HX2.out]
 have hn:=z7o { c with tr:=3 } [] [(1,0,0,2)] [] w7 (HW.out _ HB7.out) HM7.out (by rw [hx7];exact z8u _ _ ⟨by omega,by omega⟩) (z7n HM7.out (by simp) (by simp) (by simp)) tv0 2 9 (z8v _) (fun o ho=>by cases ho) (by decide)
 rw [hx7,show tv0.c=tc0 from rfl,cw_2] at hn
 go_wp2_with ((with_reducible refine z0c HC7.out ?_ ?_);rfl)
 refine hn.mono ?_
 rintro e w8 ⟨rfl,h8⟩
 have HC8:=hid (HC7.out.later h8)
 have HM8:=hid (HM7.out.later h8)
 have HR8:=hid (HR7.out.later h8)
 have HB8:=hid (HB7.out.trans (h8.mono HB7.out.size))
 clear h8 hn HB7 HC7 HM7 HR7
 obtain⟨hr9,hb9⟩:=z7x w8 (rvK (recK 8 4 0 0 false (0,0,0) 0 0))
 obtain⟨w9,hw9⟩:∃ w9,(w8.alloc (.cells #[.int .u8 0,.int .u32 0,.int .u32 0,.int .u8 0,.bool false,.int .u8 0,.int .u8 0,.int .u8 0,.int .i64 0,.int .u8 0,.int .u8 0,.int .u32 0,.int .u8 0,.slice none 0 0,.slice none 0 0,.slice none 0 0,.int .u8 0,.int .u8 0,.int .u8 0,.int .i64 0] 32)).setRow w8.heap.size (rcs (rvK (recK 8 4 0 0 false (0,0,0) 0 0)))=w9:=⟨_,rfl⟩
 obtain⟨S,hS⟩:∃ S,w8.heap.size=S:=⟨_,rfl⟩
 have hz8:RB (w8.alloc (.cells #[.int .u8 0,.int .u32 0,.int .u32 0,.int .u8 0,.bool false,.int .u8 0,.int .u8 0,.int .u8 0,.int .i64 0,.int .u8 0,.int .u8 0,.int .u32 0,.int .u8 0,.slice none 0 0,.slice none 0 0,.slice none 0 0,.int .u8 0,.int .u8 0,.int .u8 0,.int .i64 0] 32)) w8.heap.size rz:=RB.new w8 rz
 rw [hw9] at hr9 hb9
 rw [hS] at hr9
 have HZ8:=hid hz8
 have HW9:=hid hw9
 have HSS:=hid hS
 have HS9:=hid hr9
 have HC9:=hid (HC8.out.later hb9)
 have HM9:=hid (HM8.out.later hb9)
 have HR9:=hid (HR8.out.later hb9)
 have HB9:=hid (HB8.out.trans (hb9.mono HB8.out.size))
 have HNS:Hid (A<S):=hid (by rw [← hS];exact HC8.out.lt)
 clear hr9 hb9 hw9 hS hz8 HB8 HC8 HM8 HR8
 go_upto_region 6 with ((with_reducible refine z0g (rvK (recK 8 4 0 0 false (0,0,0) 0 0)) HZ8.out ?_ ?_ ?_);rfl;rfl)
 rw [HW9.out,HSS.out]
 clear HZ8 HW9 HSS
 have ha:=cr_apply { c with tr:=3 } [] [(1,0,0,2)] [] w9 (HW.out _ HB9.out) HM9.out (by rw [hx7];exact z8u _ _ ⟨by omega,by omega⟩) (z7n HM9.out (by simp) (by simp) (by simp)) (rvK (recK 8 4 0 0 false (0,0,0) 0 0)) [] [] [] (z8w _ _) (by rw [rvK_x rfl];exact⟨by decide,by decide,by decide,by decide,⟨by decide,by decide,by decide⟩,by unfold In64;decide,by decide,⟨by decide,by decide,by decide,(fun x hx=>by cases hx),(fun x hx=>by cases hx),(fun x hx=>by cases hx),by decide,by decide,by decide,by unfold In64;decide⟩⟩) ⟨by decide,by decide,by decide⟩
 rw [hx7,rvK_x rfl,cw_3] at ha
 go_wp2_with (first | ((with_reducible refine z0c HC9.out ?_ ?_);rfl) | ((with_reducible refine z2h HS9.out ?_ ?_);rfl))
 refine ha.mono ?_
 rintro e w10 ⟨d,L,T,M,rfl,hm10,hx10,h10⟩
 obtain⟨rfl,rfl,rfl⟩:=cx_lists hx10
 have HR10:=hid (HR9.out.later h10)
 have HS10:=hid (HS9.out.later h10)
 have HB10:=hid (HB9.out.trans (h10.mono HB9.out.size))
 clear h10 ha HB9 HC9 HM9 HR9 HS9
 obtain⟨hc11,hb11⟩:=cr_new0 w10 d
 obtain⟨w11,hw11⟩:∃ w11,(w10.alloc (.cells #[.int .u32 0,.int .u8 0,.int .u32 0,.int .u8 0,.slice none 0 0,.slice none 0 0,.slice none 0 0,.int .u8 0,.int .u8 0,.int .u8 0,.int .i64 0,.bool false,.int .i64 0,.int .i64 0,.int .u32 0] 28)).setRow w10.heap.size (ccs d)=w11:=⟨_,rfl⟩
 obtain⟨D,hD⟩:∃ D,w10.heap.size=D:=⟨_,rfl⟩
 have hz10:CB (w10.alloc (.cells #[.int .u32 0,.int .u8 0,.int .u32 0,.int .u8 0,.slice none 0 0,.slice none 0 0,.slice none 0 0,.int .u8 0,.int .u8 0,.int .u8 0,.int .i64 0,.bool false,.int .i64 0,.int .i64 0,.int .u32 0] 28)) w10.heap.size cz:=CB.new w10 cz
 rw [hw11] at hc11 hb11
 rw [hD] at hc11
 have HZ10:=hid hz10
 have HW11:=hid hw11
 have HDD:=hid hD
 have HD11:=hid hc11
 have HR11:=hid (HR10.out.later hb11)
 have HS11:=hid (HS10.out.later hb11)
 have HM11:Hid (CvM w11 d [] [(1,0,0,2)] []):=hid (PgM.later hm10 hb11)
 have HB11:=hid (HB10.out.trans (hb11.mono HB10.out.size))
 clear hc11 hb11 hw11 hD hz10 hm10 HB10 HR10 HS10
 go_upto_region 7 with ((with_reducible refine z0m d HZ10.out ?_ ?_ ?_);rfl;rfl)
 rw [HW11.out,HDD.out]
 clear HZ10 HW11 HDD
 have hn:=z7o d [] [(1,0,0,2)] [] w11 (HW.out _ HB11.out) HM11.out (by rw [hx10];exact z8u _ _ ⟨by omega,by omega⟩) (z7n HM11.out (by simp) (by simp) (by simp)) tv0 2 9 (z8v _) (fun o ho=>by cases ho) (by decide)
 rw [hx10,show tv0.c=tc0 from rfl,cw_4] at hn
 go_wp2_with ((with_reducible refine z0c HD11.out ?_ ?_);rfl)
 refine hn.mono ?_
 rintro e w12 ⟨rfl,h12⟩
 have HD12:=hid (HD11.out.later h12)
 have HM12:=hid (HM11.out.later h12)
 have HR12:=hid (HR11.out.later h12)
 have HS12:=hid (HS11.out.later h12)
 have HB12:=hid (HB11.out.trans (h12.mono HB11.out.size))
 clear h12 hn HB11 HD11 HM11 HR11 HS11
 obtain⟨hr13,hb13⟩:=z7x w12 (rvK (recK 9 4 0 0 false (0,0,0) 0 2))
 obtain⟨w13,hw13⟩:∃ w13,(w12.alloc (.cells #[.int .u8 0,.int .u32 0,.int .u32 0,.int .u8 0,.bool false,.int .u8 0,.int .u8 0,.int .u8 0,.int .i64 0,.int .u8 0,.int .u8 0,.int .u32 0,.int .u8 0,.slice none 0 0,.slice none 0 0,.slice none 0 0,.int .u8 0,.int .u8 0,.int .u8 0,.int .i64 0] 32)).setRow w12.heap.size (rcs (rvK (recK 9 4 0 0 false (0,0,0) 0 2)))=w13:=⟨_,rfl⟩
 obtain⟨Q,hQ⟩:∃ Q,w12.heap.size=Q:=⟨_,rfl⟩
 have hz12:RB (w12.alloc (.cells #[.int .u8 0,.int .u32 0,.int .u32 0,.int .u8 0,.bool false,.int .u8 0,.int .u8 0,.int .u8 0,.int .i64 0,.int .u8 0,.int .u8 0,.int .u32 0,.int .u8 0,.slice none 0 0,.slice none 0 0,.slice none 0 0,.int .u8 0,.int .u8 0,.int .u8 0,.int .i64 0] 32)) w12.heap.size rz:=RB.new w12 rz
 rw [hw13] at hr13 hb13
 rw [hQ] at hr13
 have HZ12:=hid hz12
 have HW13:=hid hw13
 have HQQ:=hid hQ
 have HQ13:=hid hr13
 have HD13:=hid (HD12.out.later hb13)
 have HM13:=hid (HM12.out.later hb13)
 have HR13:=hid (HR12.out.later hb13)
 have HS13:=hid (HS12.out.later hb13)
 have HB13:=hid (HB12.out.trans (hb13.mono HB12.out.size))
 clear hr13 hb13 hw13 hQ hz12 HB12 HD12 HM12 HR12 HS12
 go_upto_region 8 with ((with_reducible refine z0g (rvK (recK 9 4 0 0 false (0,0,0) 0 2)) HZ12.out ?_ ?_ ?_);rfl;rfl)
 rw [HW13.out,HQQ.out]
 clear HZ12 HW13 HQQ
 have hdb:d.bk=true:=by
  have:=congrArg Crs.bk hx10
  exact this
 have a0:=HR13.out.at.1
 have a2:=HR13.out.at.2.2.1
 have b0:=HS13.out.at.1
 have d11:=HD13.out.at.2.1
 rw [hdb] at d11
 have q0:=HQ13.out.at.1
 have q9:=z0b (j:=9) HQ13.out (v:=.int .u8 2) rfl
 have a0':w13.cell? ⟨R,0,none⟩=some (.int .u8 2):=a0
 have a2':w13.cell? ⟨R,2,none⟩=some (.int .u32 9):=a2
 have b0':w13.cell? ⟨S,0,none⟩=some (.int .u8 8):=b0
 have q0':w13.cell? ⟨Q,0,none⟩=some (.int .u8 9):=q0
 clear a0 a2 b0 q0 hdb hx10 hx7
 go_wp2_with fail
 go_ret
 exact⟨rfl,HB13.out⟩
end Go.Proofs.YtnpjpelbcmgodaaDoor
