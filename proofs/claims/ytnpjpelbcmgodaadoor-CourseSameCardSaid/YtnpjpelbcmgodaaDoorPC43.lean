import Derived.Test.YtnpjpelbcmgodaaDoorPC99
import Derived.Test.YtnpjpelbcmgodaaDoorPC32
import Derived.Test.YtnpjpelbcmgodaaDoorPC42
import Derived.Test.YtnpjpelbcmgodaaDoorPC45
import Derived.Test.YtnpjpelbcmgodaaDoorPC39
namespace Go.Proofs.YtnpjpelbcmgodaaDoor
open Go.Lib (hid)
set_option maxHeartbeats 16000000
open Go.RowKit Go.ChangeShapes Go.WideShapes
set_option linter.unusedVariables false
set_option linter.unusedSimpArgs false
set_option maxRecDepth 10000
theorem gives_no {W w:World} (hb:Below W.heap.size W w):z4b W [] (.returned (.slice none 0 0)) w:=⟨none,0,rfl,SlG.empty _,hb,fun _ h=>by cases h⟩
theorem givesO_since {W W2:World} {V:List O} {e:Ending} {w':World} (h:z4b W2 V e w') (hb:Below W.heap.size W W2):z4b W V e w':=GivesG.since h hb
theorem stpC_at {c:Crs} (hg:z1y c=true) (hok:Pgok c.P) (ht:(z1h c).2=true):∃ i:Nat,(z1h c).1=(i:Int)∧i<(z0r c.P).length∧stpC c=(z0r c.P).getD i stp0∧z7p (stpC c):=by
 obtain⟨_,g2,g3,g4,_⟩:=z1x hg
 have hi:0≤(z1h c).1∧(z1h c).1<((z0r c.P).length:Int):=by
  unfold z1h lenC at *
  split at ht
  · rename_i h
    simp only [if_pos h,decide_eq_true_eq] at ht ⊢
    omega
  · rename_i h
    simp only [if_neg h,decide_eq_true_eq] at ht ⊢
    omega
 have hlt:(z1h c).1.toNat<(z0r c.P).length:=by omega
 refine⟨(z1h c).1.toNat,by omega,hlt,rfl,(z5l g2 hok).2 _ ?_⟩
 unfold stpC
 rw [List.getD,List.getElem?_eq_getElem hlt]
 exact List.getElem_mem _
theorem cr_ops (c:Cv) (L:List Ln) (T:List Tk) (M:List Ln) (W:World) (hw:Words W) (hP:CvM W c L T M) (hok:Crok (c.x L T M)) (h1:c.p.ln≤400∧c.p.tn≤400∧c.p.wn≤400):Calls Tryd.prog 22 #[.agg (ccs c)] W (z4b W (opsC (c.x L T M))):=by
 obtain⟨W1,hW1,hx,hb1⟩:∃ W1,W.alloc (.cells (ccs c) 28)=W1∧CB W1 W.heap.size c∧Below W.heap.size W W1:=⟨_,rfl,CB.new W c,(Below.refl _ _).alloc (Nat.le_refl _) _⟩
 obtain⟨B,hB⟩:∃ B,W.heap.size=B:=⟨_,rfl⟩
 rw [hB] at hx
 have HX:=hid hx
 have HW1:=hid hW1
 have HB1:=hid hb1
 have HRE:=hid hB
 have hgd:=z7l c L T M W1 (hw.later hb1) (hP.later hb1) hok h1
 cases hg:z1y (c.x L T M) with
 | false =>
  rw [hg] at hgd
  have HE:Hid (opsC (c.x L T M)=[]):=hid (by unfold opsC;rw [if_pos (.inl hg)])
  clear hW1 hx hb1 hB hw hP hok h1 hg
  go_enter Tryd.func22,Tryd.ntmps22
  go_upto_region 1 with (fail)
  rw [HW1.out,HRE.out]
  go_wp2_with ((with_reducible refine z0e HX.out ?_ ?_);rfl)
  refine hgd.mono ?_
  rintro e w2 ⟨rfl,h2⟩
  have HB2:=hid (HB1.out.trans (h2.mono HB1.out.size))
  clear h2 hgd
  go_wp2_with fail
  go_ret
  rw [HE.out]
  exact gives_no HB2.out
 | true =>
  rw [hg] at hgd
  have HTU:=hid fun w' (hb:Below W1.heap.size W1 w')=>z7z c L T M w' (hw.later (hb1.trans (hb.mono hb1.size))) ((hP.later hb1).later hb) hok h1 hg
  have HBK:Hid ((z1h (c.x L T M)).2=true→opsC (c.x L T M)=if c.bk then negF (opsT (stpC (c.x L T M))) else opsT (stpC (c.x L T M))):=hid fun h=>by unfold opsC;rw [if_neg (by simp [hg,h])];rfl
  have HNO:Hid ((z1h (c.x L T M)).2=false→opsC (c.x L T M)=[]):=hid fun h=>by unfold opsC;rw [if_pos (.inr h)]
  have HAT:=hid (fun h=>stpC_at (c:=c.x L T M) hg hok.P h)
  have HS:Hid (∀ w',Below W1.heap.size W1 w'→Calls Tryd.prog 39 #[.agg #[.int .u8 c.p.pk,.int .u32 c.p.od,.int .u8 c.p.po,.slice c.p.lp c.p.ln c.p.lcp,.slice c.p.tp c.p.tn c.p.tcp,.slice c.p.wp c.p.wn c.p.wcp,.int .u8 c.p.sk,.int .u8 c.p.fr,.int .u8 c.p.to,.int .i64 c.p.q]] w' (GivesS w' (z0r (c.p.pg L T M)))):=hid fun w' hb=>z7s c.p.pk c.p.od c.p.po c.p.lp c.p.ln c.p.lcp c.p.tp c.p.tn c.p.tcp c.p.wp c.p.wn c.p.wcp c.p.sk c.p.fr c.p.to c.p.q L T M w' (hw.later (hb1.trans (hb.mono hb1.size))) ((hP.later hb1).later hb) hok.P h1
  have HXP:Hid ((c.x L T M).P=c.p.pg L T M):=hid rfl
  clear hW1 hx hb1 hB hw hP hok h1 hg
  generalize c.x L T M=X at *
  generalize c.p.pg L T M=P at *
  rw [HXP.out] at HAT
  clear HXP
  obtain⟨y,hy⟩:∃ y,(z1h X).2=y:=⟨_,rfl⟩
  rw [hy] at HTU HBK HNO HAT
  clear hy
  cases y with
  | false =>
   go_enter Tryd.func22,Tryd.ntmps22
   go_upto_region 1 with (fail)
   rw [HW1.out,HRE.out]
   go_wp2_with ((with_reducible refine z0e HX.out ?_ ?_);rfl)
   refine hgd.mono ?_
   rintro e w2 ⟨rfl,h2⟩
   have HX2:=hid (HX.out.later h2)
   have HB2:=hid h2
   clear h2 hgd
   go_wp2_with ((with_reducible refine z0e HX2.out ?_ ?_);rfl)
   refine (HTU.out _ HB2.out).mono ?_
   rintro e w3 ⟨rfl,h3⟩
   have HB3:=hid (HB2.out.trans (h3.mono HB2.out.size))
   clear h3
   go_wp2_with fail
   go_ret
   rw [HNO.out (by first | rfl | trivial)]
   exact gives_no (HB1.out.trans (HB3.out.mono HB1.out.size))
  | true =>
   obtain⟨i,hi1,hi2,hi3,hf⟩:=HAT.out rfl
   have hbk:=HBK.out rfl
   rw [hi3] at hf hbk
   rw [hi1] at HTU
   have HBY:=hid hbk
   have HFI:=hid hf
   clear HAT HBK HNO hi1 hi3 hf hbk
   obtain⟨n,hn⟩:∃ n,(z0r P).length=n:=⟨_,rfl⟩
   rw [hn] at hi2
   have HN:=hid hn
   clear hn
   go_enter Tryd.func22,Tryd.ntmps22
   go_upto_region 1 with (fail)
   rw [HW1.out,HRE.out]
   go_wp2_with ((with_reducible refine z0e HX.out ?_ ?_);rfl)
   refine hgd.mono ?_
   rintro e w2 ⟨rfl,h2⟩
   have HX2:=hid (HX.out.later h2)
   have HB2:=hid h2
   clear h2 hgd
   go_wp2_with ((with_reducible refine z0e HX2.out ?_ ?_);rfl)
   refine (HTU.out _ HB2.out).mono ?_
   rintro e w3 ⟨rfl,h3⟩
   have HX3:=hid (HX2.out.later h3)
   have HB3:=hid (HB2.out.trans (h3.mono HB2.out.size))
   clear h3
   go_wp2_with ((with_reducible refine z2h HX3.out ?_ ?_);rfl)
   refine (HS.out _ HB3.out).mono ?_
   rintro e w4 ⟨p4,c4,H4,rfl,hs4,h4⟩
   have HX4:=hid (HX3.out.later h4)
   have HB4:=hid (HB3.out.trans (h4.mono HB3.out.size))
   simp only [HN.out] at hs4 ⊢
   have hc4:=hs4.row.cap
   obtain⟨b,off,rfl,_,k0,k1,k2⟩:=z5m hs4.row hi2
   obtain⟨t1,t2,t3⟩:=hs4.tells.at i (by rw [hs4.row.len];exact hi2)
   rw [t1] at k0
   rw [t2] at k1
   rw [show (z0r P).getD i stp0=(z0r P).getD i (0,0,[]) from rfl] at HBY HFI
   generalize (z0r P).getD i (0,0,[])=sj at *
   obtain⟨ts,rs,Lq⟩:=sj
   generalize H4.getD i hs0=hd at *
   obtain⟨y1,y2,ip,il,ic⟩:=hd
   dsimp only at k0 k1 k2 t1 t2 t3
   obtain⟨f1,f2,f3,f4,f5⟩:=HFI.out
   dsimp only at f1 f2 f3 f4 f5
   have hl1:=t3.len
   have hba:Below w4.heap.size w4 (w4.alloc (.cells #[.int .u8 ts,.int .u8 rs,.slice ip il ic] 76)):=(Below.refl _ _).alloc (Nat.le_refl _) _
   have HOP:=hid (ops_any ts rs ip il ic Lq (w4.alloc (.cells #[.int .u8 ts,.int .u8 rs,.slice ip il ic] 76)) (t3.later hba) f4 (by omega))
   have HUN:=hid (undo_any ts rs ip il ic Lq (w4.alloc (.cells #[.int .u8 ts,.int .u8 rs,.slice ip il ic] 76)) (t3.later hba) f4 f3 (by omega))
   have a11:=(HX4.out.later hba).at.2.1
   have HB5:=hid (HB1.out.trans ((HB4.out.trans (hba.mono HB4.out.size)).mono HB1.out.size))
   clear t1 t2 t3 f1 f2 f3 f4 f5 hl1 hba hs4 h4 HFI HS HTU
   cases hbk:c.bk
   all_goals
    rw [hbk] at a11 HBY
    have HBZ:=HBY.out
    first | rw [if_pos rfl] at HBZ | rw [if_neg (by simp)] at HBZ
    have HBW:=hid HBZ
    clear HBZ HBY
    go_wp2_with fail
    first | refine HOP.out.mono ?_ | refine HUN.out.mono ?_
    intro e w6 h6
    have h7:=givesO_since h6 HB5.out
    obtain⟨p6,c6,rfl,h8⟩:=h7
    have H8:=hid h8
    clear h8 h6
    go_wp2_with fail
    go_ret
    rw [HBW.out]
    exact⟨p6,c6,rfl,H8.out⟩
def rvK (X:Rx):Rv:=⟨X.k,X.sg,X.tx,X.st,X.cp,X.key.1,X.key.2.1,X.key.2.2,X.d,X.o,0,0,0,none,0,0,none,0,0,none,0,0,0,0,0,0⟩
theorem rvK_x {X:Rx} (h:X.pg=noP):(rvK X).x [] [] []=X:=by
 obtain⟨k,sg,tx,st,cp,key,d,o,pg⟩:=X
 simp only at h
 subst h
 rfl
theorem rvK_m (X:Rx) (w:World):RvM w (rvK X) [] [] []:=⟨SlG.empty _,SlG.empty _,SlG.empty _⟩
theorem z1s {fn:Func} {q:Tmp} (h:fn.results=#[.cell q 32]) (tmps:Array Value) (W:World) (R:Nat) (r:Rv) (hp:tmps.getD q undef=.pointer (some ⟨R,0,none⟩))
 (hB:RB W R r):(results fn tmps).run Tryd.prog W=.ok (.agg (rcs r)) W :=
 results_cell_row h tmps _ R 32 (rcs r) (0,0) _ hp hB Tryd.underlying32 rfl (by kernel_rfl)
theorem cr_undo (t:Tv) (W:World) (hT:TvM W t) (hx:∀ o∈t.c.dn,Ook o) (hn:t.n≤1000):Calls Tryd.prog 19 #[.agg #[.int .u32 t.c.id,.int .u32 t.c.sg,.int .u8 t.c.st,.bool t.c.cp,.bool t.c.dd,.slice t.p t.n t.m,.int .i64 t.c.fs,.int .i64 t.c.sz]] W fun e w'=>e=.returned (.agg (rcs (rvK (z8i t.c))))∧Below W.heap.size W w':=by
 obtain⟨W1,hW1,hxb,hz,hb1⟩:∃ W1,(W.alloc (.cells #[.int .u32 t.c.id,.int .u32 t.c.sg,.int .u8 t.c.st,.bool t.c.cp,.bool t.c.dd,.slice t.p t.n t.m,.int .i64 t.c.fs,.int .i64 t.c.sz] 36)).alloc (.cells #[.int .u8 0,.int .u32 0,.int .u32 0,.int .u8 0,.bool false,.int .u8 0,.int .u8 0,.int .u8 0,.int .i64 0,.int .u8 0,.int .u8 0,.int .u32 0,.int .u8 0,.slice none 0 0,.slice none 0 0,.slice none 0 0,.int .u8 0,.int .u8 0,.int .u8 0,.int .i64 0] 32)=W1∧W1.heap[W.heap.size]?=some (.cells #[.int .u32 t.c.id,.int .u32 t.c.sg,.int .u8 t.c.st,.bool t.c.cp,.bool t.c.dd,.slice t.p t.n t.m,.int .i64 t.c.fs,.int .i64 t.c.sz] 36 (0,0))∧RB W1 (W.heap.size+1) rz∧Below W.heap.size W W1:=by
  have hb0:Below W.heap.size W (W.alloc (.cells #[.int .u32 t.c.id,.int .u32 t.c.sg,.int .u8 t.c.st,.bool t.c.cp,.bool t.c.dd,.slice t.p t.n t.m,.int .i64 t.c.fs,.int .i64 t.c.sz] 36)):=(Below.refl _ _).alloc (Nat.le_refl _) _
  have hs:(W.alloc (.cells #[.int .u32 t.c.id,.int .u32 t.c.sg,.int .u8 t.c.st,.bool t.c.cp,.bool t.c.dd,.slice t.p t.n t.m,.int .i64 t.c.fs,.int .i64 t.c.sz] 36)).heap.size=W.heap.size+1:=by simp only [World.alloc,Array.size_push]
  have hb1:Below (W.alloc (.cells #[.int .u32 t.c.id,.int .u32 t.c.sg,.int .u8 t.c.st,.bool t.c.cp,.bool t.c.dd,.slice t.p t.n t.m,.int .i64 t.c.fs,.int .i64 t.c.sz] 36)).heap.size (W.alloc (.cells #[.int .u32 t.c.id,.int .u32 t.c.sg,.int .u8 t.c.st,.bool t.c.cp,.bool t.c.dd,.slice t.p t.n t.m,.int .i64 t.c.fs,.int .i64 t.c.sz] 36)) ((W.alloc (.cells #[.int .u32 t.c.id,.int .u32 t.c.sg,.int .u8 t.c.st,.bool t.c.cp,.bool t.c.dd,.slice t.p t.n t.m,.int .i64 t.c.fs,.int .i64 t.c.sz] 36)).alloc (.cells #[.int .u8 0,.int .u32 0,.int .u32 0,.int .u8 0,.bool false,.int .u8 0,.int .u8 0,.int .u8 0,.int .i64 0,.int .u8 0,.int .u8 0,.int .u32 0,.int .u8 0,.slice none 0 0,.slice none 0 0,.slice none 0 0,.int .u8 0,.int .u8 0,.int .u8 0,.int .i64 0] 32)):=(Below.refl _ _).alloc (Nat.le_refl _) _
  refine⟨_,rfl,z0c (z0d W _) hb1,?_,hb0.trans (hb1.mono hb0.size)⟩
  have h:=RB.new (W.alloc (.cells #[.int .u32 t.c.id,.int .u32 t.c.sg,.int .u8 t.c.st,.bool t.c.cp,.bool t.c.dd,.slice t.p t.n t.m,.int .i64 t.c.fs,.int .i64 t.c.sz] 36)) rz
  rw [hs] at h
  exact h
 obtain⟨B,hB⟩:∃ B,W.heap.size=B:=⟨_,rfl⟩
 rw [hB] at hxb hz
 have HX:=hid hxb
 have HZ:=hid hz
 have HW1:=hid hW1
 have HB1:=hid hb1
 have HRE:=hid hB
 have hla:=jlast_any t W1 (hT.later hb1) hx (by omega)
 have HU:Hid (z8i t.c=if (z4e t.c).2 then recK 6 0 t.c.id 0 false (z4e t.c).1.1 (z4e t.c).1.2 0 else recK 7 0 t.c.id 0 false (0,0,0) 0 0):=hid rfl
 generalize z8i t.c=U at *
 obtain⟨lc,hlc⟩:∃ lc,z4e t.c=lc:=⟨_,rfl⟩
 rw [hlc] at hla HU
 obtain⟨⟨⟨ka,kb,kc⟩,d⟩,b⟩:=lc
 dsimp only at hla
 obtain⟨a0,a1,a2,a3,a4,a5,a6,a7⟩:=z1q hxb
 clear hW1 hxb hz hb1 hB hT hx hn hlc
 go_enter Tryd.func19,Tryd.ntmps19
 go_upto_region 1 with (fail)
 rw [HW1.out,HRE.out]
 go_wp2_with fail
 refine hla.mono ?_
 rintro e w2 ⟨rfl,h2⟩
 have hba:Below w2.heap.size w2 (w2.alloc (.cells #[.int .u8 ka,.int .u8 kb,.int .u8 kc,.int .i64 d] 72)):=(Below.refl _ _).alloc (Nat.le_refl _) _
 have HZ3:=hid ((HZ.out.later h2).later hba)
 have hb2:=HB1.out.trans (h2.mono HB1.out.size)
 have HB3:=hid (hb2.trans (hba.mono hb2.size))
 have hx3:=z0c (z0c HX.out h2) hba
 have ho3:=z0d w2 (.cells #[.int .u8 ka,.int .u8 kb,.int .u8 kc,.int .i64 d] 72)
 obtain⟨G,hG⟩:∃ G,w2.heap.size=G:=⟨_,rfl⟩
 rw [hG] at ho3
 have HG:=hid hG
 clear a0 a1 a2 a3 a4 a5 a6 a7 h2 hba hb2 hla hG HX HZ
 go_upto_region 2 with (fail)
 rw [HG.out]
 generalize w2.alloc (.cells #[.int .u8 ka,.int .u8 kb,.int .u8 kc,.int .i64 d] 72)=w3 at *
 have a0:=(z1q hx3).1
 have o0:=z0a (j:=0) ho3 (v:=.int .u8 ka) rfl
 have o1:=z0a (j:=1) ho3 (v:=.int .u8 kb) rfl
 have o2:=z0a (j:=2) ho3 (v:=.int .u8 kc) rfl
 have o3:=z0a (j:=3) ho3 (v:=.int .i64 d) rfl
 clear hx3 ho3
 cases b
 · have HE:Hid (U=recK 7 0 t.c.id 0 false (0,0,0) 0 0):=hid HU.out
   clear HU
   go_wp2_with ((with_reducible refine z0k (rvK (recK 7 0 t.c.id 0 false (0,0,0) 0 0)) HZ3.out ?_ ?_ ?_);rfl;rfl)
   (try simp only [Exit.inBlock,Exit.then])
   refine bodyPost_ret (v:=.agg (rcs (rvK (recK 7 0 t.c.id 0 false (0,0,0) 0 0)))) ?_ rfl ⟨by rw [HE.out],below_setRow HB3.out (by have:=HRE.out;omega) _⟩
   exact z1s rfl _ _ (B+1) _ rfl (HZ3.out.set _)
 · have HE:Hid (U=recK 6 0 t.c.id 0 false (ka,kb,kc) d 0):=hid HU.out
   clear HU
   go_wp2_with ((with_reducible refine z0k (rvK (recK 6 0 t.c.id 0 false (ka,kb,kc) d 0)) HZ3.out ?_ ?_ ?_);rfl;rfl)
   (try simp only [Exit.inBlock,Exit.then])
   refine bodyPost_ret (v:=.agg (rcs (rvK (recK 6 0 t.c.id 0 false (ka,kb,kc) d 0)))) ?_ rfl ⟨by rw [HE.out],below_setRow HB3.out (by have:=HRE.out;omega) _⟩
   exact z1s rfl _ _ (B+1) _ rfl (HZ3.out.set _)
theorem cr_three8 (W:World) (c:Cv) (t:Tv):∃ W1,((W.alloc (.cells (ccs c) 28)).alloc (.cells #[.int .u32 t.c.id,.int .u32 t.c.sg,.int .u8 t.c.st,.bool t.c.cp,.bool t.c.dd,.slice t.p t.n t.m,.int .i64 t.c.fs,.int .i64 t.c.sz] 36)).alloc (.cells #[.int .u8 0,.int .u32 0,.int .u32 0,.int .u8 0,.bool false,.int .u8 0,.int .u8 0,.int .u8 0,.int .i64 0,.int .u8 0,.int .u8 0,.int .u32 0,.int .u8 0,.slice none 0 0,.slice none 0 0,.slice none 0 0,.int .u8 0,.int .u8 0,.int .u8 0,.int .i64 0] 32)=W1∧CB W1 W.heap.size c∧W1.heap[W.heap.size+1]?=some (.cells #[.int .u32 t.c.id,.int .u32 t.c.sg,.int .u8 t.c.st,.bool t.c.cp,.bool t.c.dd,.slice t.p t.n t.m,.int .i64 t.c.fs,.int .i64 t.c.sz] 36 (0,0))∧RB W1 (W.heap.size+2) rz∧Below W.heap.size W W1:=by
 have hb0:Below W.heap.size W (W.alloc (.cells (ccs c) 28)):=(Below.refl _ _).alloc (Nat.le_refl _) _
 have hs:(W.alloc (.cells (ccs c) 28)).heap.size=W.heap.size+1:=by simp only [World.alloc,Array.size_push]
 have hx:=CB.new W c
 obtain⟨V,hV⟩:∃ V,W.alloc (.cells (ccs c) 28)=V:=⟨_,rfl⟩
 rw [hV] at hb0 hs hx ⊢
 have hb1:Below V.heap.size V (V.alloc (.cells #[.int .u32 t.c.id,.int .u32 t.c.sg,.int .u8 t.c.st,.bool t.c.cp,.bool t.c.dd,.slice t.p t.n t.m,.int .i64 t.c.fs,.int .i64 t.c.sz] 36)):=(Below.refl _ _).alloc (Nat.le_refl _) _
 have ht:=z0d V (.cells #[.int .u32 t.c.id,.int .u32 t.c.sg,.int .u8 t.c.st,.bool t.c.cp,.bool t.c.dd,.slice t.p t.n t.m,.int .i64 t.c.fs,.int .i64 t.c.sz] 36)
 have hs1:(V.alloc (.cells #[.int .u32 t.c.id,.int .u32 t.c.sg,.int .u8 t.c.st,.bool t.c.cp,.bool t.c.dd,.slice t.p t.n t.m,.int .i64 t.c.fs,.int .i64 t.c.sz] 36)).heap.size=W.heap.size+2:=by simp only [World.alloc,Array.size_push];omega
 obtain⟨U,hU⟩:∃ U,V.alloc (.cells #[.int .u32 t.c.id,.int .u32 t.c.sg,.int .u8 t.c.st,.bool t.c.cp,.bool t.c.dd,.slice t.p t.n t.m,.int .i64 t.c.fs,.int .i64 t.c.sz] 36)=U:=⟨_,rfl⟩
 rw [hU] at hb1 ht hs1 ⊢
 rw [hs] at ht
 have hb2:Below U.heap.size U (U.alloc (.cells #[.int .u8 0,.int .u32 0,.int .u32 0,.int .u8 0,.bool false,.int .u8 0,.int .u8 0,.int .u8 0,.int .i64 0,.int .u8 0,.int .u8 0,.int .u32 0,.int .u8 0,.slice none 0 0,.slice none 0 0,.slice none 0 0,.int .u8 0,.int .u8 0,.int .u8 0,.int .i64 0] 32)):=(Below.refl _ _).alloc (Nat.le_refl _) _
 have hz:=RB.new U rz
 rw [hs1] at hz
 have h3:=hb0.trans (hb1.mono hb0.size)
 exact⟨_,rfl,(hx.later hb1).later hb2,z0c ht hb2,hz,h3.trans (hb2.mono h3.size)⟩
theorem z8a (c:Cv) (L:List Ln) (T:List Tk) (M:List Ln) (W:World) (hw:Words W) (hP:CvM W c L T M) (hok:Crok (c.x L T M)) (h1:c.p.ln≤400∧c.p.tn≤400∧c.p.wn≤400) (t:Tv) (retry id:Int) (hT:TvM W t) (hx:∀ o∈t.c.dn,Ook o) (hn:t.n≤1000):Calls Tryd.prog 17 #[.agg (ccs c),.agg #[.int .u32 t.c.id,.int .u32 t.c.sg,.int .u8 t.c.st,.bool t.c.cp,.bool t.c.dd,.slice t.p t.n t.m,.int .i64 t.c.fs,.int .i64 t.c.sz],.int .i64 retry,.int .u32 id] W fun e w'=>e=.returned (.agg (rcs (rvK (z6m (c.x L T M) t.c retry id))))∧Below W.heap.size W w':=by
 obtain⟨W1,hW1,hxb,htb,hz,hb1⟩:=cr_three8 W c t
 obtain⟨B,hB⟩:∃ B,W.heap.size=B:=⟨_,rfl⟩
 rw [hB] at hxb htb hz
 have HX:=hid hxb
 have HT:=hid htb
 have HZ:=hid hz
 have HW1:=hid hW1
 have HB1:=hid hb1
 have HRE:=hid hB
 have hgd:=z7l c L T M W1 (hw.later hb1) (hP.later hb1) hok h1
 cases hg:z1y (c.x L T M) with
 | false =>
  rw [hg] at hgd
  have HE:Hid (z6m (c.x L T M) t.c retry id=noX):=hid (by unfold z6m;rw [if_pos hg])
  generalize z6m (c.x L T M) t.c retry id=N at *
  clear hW1 hxb htb hz hb1 hB hg hw hP hok h1 hT hx hn
  go_enter Tryd.func17,Tryd.ntmps17
  go_wp2_with fail
  refine z2k ?_
  go_upto_region 1 with (fail)
  rw [HW1.out,HRE.out]
  try rw [show B+1+1=B+2 from rfl]
  go_wp2_with ((with_reducible refine z0e HX.out ?_ ?_);rfl)
  refine hgd.mono ?_
  rintro e w2 ⟨rfl,h2⟩
  have HX2:=hid (HX.out.later h2)
  have HT2:=hid (z0c HT.out h2)
  have HZ2:=hid (HZ.out.later h2)
  have HB2:=hid (HB1.out.trans (h2.mono HB1.out.size))
  clear h2 HX HT HZ
  clear hgd
  go_wp2_with (((with_reducible refine z0k (rvK noX) HZ2.out ?_ ?_ ?_);rfl;rfl))
  (try simp only [Exit.inBlock,Exit.then])
  try rw [z5h]
  refine bodyPost_ret (v:=.agg (rcs (rvK noX))) ?_ rfl ⟨by rw [HE.out],below_setRow HB2.out (by have:=HRE.out;omega) _⟩
  exact z1s rfl _ _ (B+2) _ rfl (HZ2.out.set _)
 | true =>
  rw [hg] at hgd
  have HTU:=hid fun w' (hb:Below W.heap.size W w')=>z7z c L T M w' (hw.later hb) (hP.later hb) hok h1 hg
  have HO:=hid (fun W=>cr_outcome c L T M W)
  have HOP:=hid fun w' (hb:Below W.heap.size W w')=>cr_ops c L T M w' (hw.later hb) (hP.later hb) hok h1
  have HUN:=hid fun w' (hb:Below W.heap.size W w')=>cr_undo t w' (hT.later hb) hx hn
  have HNX:Hid (z6m (c.x L T M) t.c retry id=if c.tx≠0 then (if t.c.dd then z8i t.c else z6s (c.x L T M) t.c) else if c.bk=false∧retry<c.tr then recK 8 c.sg 0 0 false (0,0,0) 0 0 else z6a (c.x L T M) id):=hid (by unfold z6m;rw [if_neg (by rw [hg];simp)];rfl)
  have HTL:Hid (t.c.dn.length=t.n):=hid hT.len
  have HAT:=hid (fun h=>stpC_at (c:=c.x L T M) hg hok.P h)
  have HLL:=hid (z3s hg hok.P)
  have HSL:=hid (z5l (z1x hg).2.1 hok.P).1
  generalize z6m (c.x L T M) t.c retry id=N at *
  have HBT:Hid (z6a (c.x L T M) id=if (z1h (c.x L T M)).2 then recK 2 c.sg id (z1h (c.x L T M)).1 c.bk (0,0,0) 0 0 else recK 9 c.sg 0 0 false (0,0,0) 0 (outC (c.x L T M))):=hid rfl
  have HWI:Hid (z6s (c.x L T M) t.c=if t.c.dn.length<(opsC (c.x L T M)).length then recK 3 0 t.c.id 0 false ((opsC (c.x L T M)).getD t.c.dn.length o0).1 ((opsC (c.x L T M)).getD t.c.dn.length o0).2 0 else recK 4 0 t.c.id 0 false (0,0,0) 0 0):=hid rfl
  rw [HTL.out] at HWI
  have HXP:Hid ((c.x L T M).P=c.p.pg L T M):=hid rfl
  clear hW1 hxb htb hz hb1 hB hg hw hP hok h1 hT hx hn HTL
  generalize c.x L T M=X at *
  generalize opsC X=LO at *
  generalize z6a X id=NB at *
  generalize z6s X t.c=NW at *
  generalize z8i t.c=NU at *
  have HAB:Hid ((z1h X).2=true→(0≤(z1h X).1∧(z1h X).1≤5)∧IntKind.u8.wrap (z1h X).1=(z1h X).1):=hid fun h=>by
   obtain⟨i,hi,hlt,_⟩:=HAT.out h
   have hb:0≤(z1h X).1∧(z1h X).1≤5:=by
    have:=HSL.out
    omega
   exact⟨hb,IntWalk.u8_in _ (by omega)⟩
  obtain⟨a,ha⟩:∃ a,(z1h X).1=a:=⟨_,rfl⟩
  obtain⟨ty,hty⟩:∃ a,(z1h X).2=a:=⟨_,rfl⟩
  obtain⟨o,ho⟩:∃ a,outC X=a:=⟨_,rfl⟩
  rw [ha,hty] at HTU HAB HBT
  rw [ho] at HO HBT
  clear ha hty ho HAT HLL HSL HXP
  cases q1:(c.tx != 0) with
  | true =>
   have hne:c.tx≠0:=bne_iff_ne.1 q1
   obtain⟨dd,hd⟩:∃ dd,t.c.dd=dd:=⟨_,rfl⟩
   cases dd with
   | true =>
    have HE:Hid (N=NU):=hid (by rw [HNX.out,if_pos hne,hd];rfl)
    have HD:=hid hd
    clear HNX HBT HWI HTU HO HOP HAB hne hd
    go_enter Tryd.func17,Tryd.ntmps17
    go_wp2_with fail
    refine z2k ?_
    go_upto_region 1 with (fail)
    rw [HW1.out,HRE.out]
    try rw [show B+1+1=B+2 from rfl]
    go_wp2_with ((with_reducible refine z0e HX.out ?_ ?_);rfl)
    refine hgd.mono ?_
    rintro e w2 ⟨rfl,h2⟩
    have HX2:=hid (HX.out.later h2)
    have HT2:=hid (z0c HT.out h2)
    have HZ2:=hid (HZ.out.later h2)
    have HB2:=hid (HB1.out.trans (h2.mono HB1.out.size))
    clear h2 HX HT HZ
    clear hgd
    have a14:=HX2.out.at.2.2.2.2
    have b4:=(z1q HT2.out).2.2.2.2.1
    rw [HD.out] at b4
    go_upto_region 4 with (fail)
    clear a14 b4
    obtain⟨d0,d1,d2,d3,d4,d5,d6,d7⟩:=z1q HT2.out
    go_wp2_with fail
    refine (HUN.out _ HB2.out).mono ?_
    rintro e w3 ⟨rfl,h3⟩
    clear d0 d1 d2 d3 d4 d5 d6 d7
    have HX3:=hid (HX2.out.later h3)
    have HT3:=hid (z0c HT2.out h3)
    have HZ3:=hid (HZ2.out.later h3)
    have HB3:=hid (HB2.out.trans (h3.mono HB2.out.size))
    clear h3 HX2 HT2 HZ2
    clear HUN
    go_wp2_with (((with_reducible refine z0k (rvK NU) HZ3.out ?_ ?_ ?_);rfl;rfl))
    (try simp only [Exit.inBlock,Exit.then])
    try rw [z5h]
    refine bodyPost_ret (v:=.agg (rcs (rvK NU))) ?_ rfl ⟨by rw [HE.out],below_setRow HB3.out (by have:=HRE.out;omega) _⟩
    exact z1s rfl _ _ (B+2) _ rfl (HZ3.out.set _)
   | false =>
    have HNW:Hid (N=NW):=hid (by rw [HNX.out,if_pos hne,hd];rfl)
    have HNE:Hid (t.n<LO.length→N=recK 3 0 t.c.id 0 false (LO.getD t.n o0).1 (LO.getD t.n o0).2 0):=hid fun h=>by rw [HNW.out,HWI.out,if_pos h]
    have HNF:Hid (¬ t.n<LO.length→N=recK 4 0 t.c.id 0 false (0,0,0) 0 0):=hid fun h=>by rw [HNW.out,HWI.out,if_neg h]
    have HD:=hid hd
    clear HNX HBT HWI HTU HO HUN HAB hne HNW hd
    go_enter Tryd.func17,Tryd.ntmps17
    go_wp2_with fail
    refine z2k ?_
    go_upto_region 1 with (fail)
    rw [HW1.out,HRE.out]
    try rw [show B+1+1=B+2 from rfl]
    go_wp2_with ((with_reducible refine z0e HX.out ?_ ?_);rfl)
    refine hgd.mono ?_
    rintro e w2 ⟨rfl,h2⟩
    have HX2:=hid (HX.out.later h2)
    have HT2:=hid (z0c HT.out h2)
    have HZ2:=hid (HZ.out.later h2)
    have HB2:=hid (HB1.out.trans (h2.mono HB1.out.size))
    clear h2 HX HT HZ
    clear hgd
    have a14:=HX2.out.at.2.2.2.2
    have b4:=(z1q HT2.out).2.2.2.2.1
    rw [HD.out] at b4
    go_wp2_with fail
    clear a14 b4
    go_step3
    (try simp only [Exit.inBlock,Exit.then])
    refine⟨_,by rfl,?_⟩
    go_wp2_with ((with_reducible refine z0e HX2.out ?_ ?_);rfl)
    refine (HOP.out _ HB2.out).mono ?_
    rintro e w3 ⟨p3,k3,rfl,hs3,h3,_⟩
    have hs4:=hs3
    have HX3:=hid (HX2.out.later h3)
    have HT3:=hid (z0c HT2.out h3)
    have HZ3:=hid (HZ2.out.later h3)
    have HB3:=hid (HB2.out.trans (h3.mono HB2.out.size))
    clear h3 HX2 HT2 HZ2
    clear HOP
    have a0:=(z1q HT3.out).1
    have a5:=(z1q HT3.out).2.2.2.2.2.1
    have hc3:=hs3.cap
    obtain⟨n,hn⟩:∃ n,LO.length=n:=⟨_,rfl⟩
    simp only [hn] at hs3 hs4 hc3 ⊢
    have HN:=hid hn
    clear hn hs4
    by_cases hlt:t.n<n
    · have hltz:(t.n:Int)<(n:Int):=by omega
      obtain⟨b,off,rfl,_,k0,k1,k2,k3'⟩:=z7b hs3 hlt
      have hne:=HNE.out (by rw [HN.out];exact hlt)
      generalize LO.getD t.n o0=oo at *
      obtain⟨⟨ka,kb,kc⟩,d⟩:=oo
      dsimp only at k0 k1 k2 k3' hne
      have HE:Hid (N=recK 3 0 t.c.id 0 false (ka,kb,kc) d 0):=hid hne
      have hba:Below w3.heap.size w3 (w3.alloc (.cells #[.int .u8 ka,.int .u8 kb,.int .u8 kc,.int .i64 d] 72)):=(Below.refl _ _).alloc (Nat.le_refl _) _
      have ho4:=z0d w3 (.cells #[.int .u8 ka,.int .u8 kb,.int .u8 kc,.int .i64 d] 72)
      have HZ4:=hid (HZ3.out.later hba)
      have ht4:=z0c HT3.out hba
      have HB4:=hid (HB3.out.trans (hba.mono HB3.out.size))
      obtain⟨G,hG⟩:∃ G,w3.heap.size=G:=⟨_,rfl⟩
      rw [hG] at ho4
      have HG:=hid hG
      clear hba hG hs3 hne HNE HNF HX3 HT3 HZ3
      go_upto_region 16 with (fail)
      rw [HG.out]
      clear k0 k1 k2 k3' a0 a5
      generalize w3.alloc (.cells #[.int .u8 ka,.int .u8 kb,.int .u8 kc,.int .i64 d] 72)=w4 at *
      have a0:=(z1q ht4).1
      have o0:=z0a (j:=0) ho4 (v:=.int .u8 ka) rfl
      have o1:=z0a (j:=1) ho4 (v:=.int .u8 kb) rfl
      have o2:=z0a (j:=2) ho4 (v:=.int .u8 kc) rfl
      have o3:=z0a (j:=3) ho4 (v:=.int .i64 d) rfl
      clear ht4 ho4
      go_wp2_with (((with_reducible refine z0k (rvK (recK 3 0 t.c.id 0 false (ka,kb,kc) d 0)) HZ4.out ?_ ?_ ?_);rfl;rfl))
      (try simp only [Exit.inBlock,Exit.then])
      try rw [Exit.noGoto_ret]
      refine bodyPost_ret (v:=.agg (rcs (rvK (recK 3 0 t.c.id 0 false (ka,kb,kc) d 0)))) ?_ rfl ⟨by rw [HE.out],below_setRow HB4.out (by have:=HRE.out;omega) _⟩
      exact z1s rfl _ _ (B+2) _ rfl (HZ4.out.set _)
    · have hltz:¬ (t.n:Int)<(n:Int):=by omega
      have HE:Hid (N=recK 4 0 t.c.id 0 false (0,0,0) 0 0):=hid (HNF.out (by rw [HN.out];exact hlt))
      clear HNE HNF hs3
      go_wp2_with (((with_reducible refine z0k (rvK (recK 4 0 t.c.id 0 false (0,0,0) 0 0)) HZ3.out ?_ ?_ ?_);rfl;rfl))
      (try simp only [Exit.inBlock,Exit.then])
      try rw [Exit.noGoto_ret]
      refine bodyPost_ret (v:=.agg (rcs (rvK (recK 4 0 t.c.id 0 false (0,0,0) 0 0)))) ?_ rfl ⟨by rw [HE.out],below_setRow HB3.out (by have:=HRE.out;omega) _⟩
      exact z1s rfl _ _ (B+2) _ rfl (HZ3.out.set _)
  | false =>
   have heq:c.tx=0:=by simpa using q1
   cases hb:c.bk with
   | true =>
    have HBE:Hid (N=if ty then recK 2 c.sg id a c.bk (0,0,0) 0 0 else recK 9 c.sg 0 0 false (0,0,0) 0 o):=hid (by rw [HNX.out,if_neg (by omega),if_neg (by rw [hb];simp),HBT.out])
    have HBK:=hid hb
    clear HNX HBT HWI HOP HUN heq hb
    go_enter Tryd.func17,Tryd.ntmps17
    go_wp2_with fail
    refine z2k ?_
    go_upto_region 1 with (fail)
    rw [HW1.out,HRE.out]
    try rw [show B+1+1=B+2 from rfl]
    go_wp2_with ((with_reducible refine z0e HX.out ?_ ?_);rfl)
    refine hgd.mono ?_
    rintro e w2 ⟨rfl,h2⟩
    have HX2:=hid (HX.out.later h2)
    have HT2:=hid (z0c HT.out h2)
    have HZ2:=hid (HZ.out.later h2)
    have HB2:=hid (HB1.out.trans (h2.mono HB1.out.size))
    clear h2 HX HT HZ
    clear hgd
    have a14:=HX2.out.at.2.2.2.2
    have b4:=(z1q HT2.out).2.2.2.2.1
    have a11:=HX2.out.at.2.1
    rw [HBK.out] at a11
    go_wp2_with fail
    clear a14 b4 a11
    go_step3
    (try simp only [Exit.inBlock,Exit.then])
    refine⟨_,by rfl,?_⟩
    go_wp2_with ((with_reducible refine z0e HX2.out ?_ ?_);rfl)
    refine (HTU.out _ HB2.out).mono ?_
    rintro e w3 ⟨rfl,h3⟩
    have HX3:=hid (HX2.out.later h3)
    have HT3:=hid (z0c HT2.out h3)
    have HZ3:=hid (HZ2.out.later h3)
    have HB3:=hid (HB2.out.trans (h3.mono HB2.out.size))
    clear h3 HX2 HT2 HZ2
    clear HTU
    have a0:=HX3.out.at.1
    have a11:=HX3.out.at.2.1
    cases ty
    case true =>
     obtain⟨hab,hwa⟩:=HAB.out rfl
     have HE:Hid (N=recK 2 c.sg id a c.bk (0,0,0) 0 0):=hid (by rw [HBE.out];rfl)
     clear HBE HO
     go_wp2_with (((with_reducible refine z0k (rvK (recK 2 c.sg id a c.bk (0,0,0) 0 0)) HZ3.out ?_ ?_ ?_);rfl;rfl))
     (try simp only [Exit.inBlock,Exit.then])
     try rw [Exit.noGoto_ret]
     refine bodyPost_ret (v:=.agg (rcs (rvK (recK 2 c.sg id a c.bk (0,0,0) 0 0)))) ?_ rfl ⟨by rw [HE.out],below_setRow HB3.out (by have:=HRE.out;omega) _⟩
     exact z1s rfl _ _ (B+2) _ rfl (HZ3.out.set _)
    case false =>
     have HE:Hid (N=recK 9 c.sg 0 0 false (0,0,0) 0 o):=hid (by rw [HBE.out];rfl)
     clear HBE HAB a11
     go_upto_region 12 with (fail)
     have hbd:CB w3.drew B c:=HX3.out
     have HZ4:Hid (RB w3.drew (B+2) rz):=hid HZ3.out
     have HB4:Hid (Below W.heap.size W w3.drew):=hid HB3.out.drew
     refine wp_region_held_drew (S:=fun w'=>Hid (CB w' B c)) (by kernel_rfl) (hid hbd) (fun hHeld=>?_)
     clear hbd a0 HX3 HZ3 HB3 HT3
     generalize w3.drew=Wd at *
     refine wpAnyH_take (i:=0) (oi:=⟨some 57,_,_,_,_,_⟩) (v:=.pointer (some ⟨B,0,none⟩)) rfl (by kernel_rfl) (by kernel_rfl) (by kernel_rfl) (fun _ _ _ h=>h) (Or.inl ⟨by rfl,fun w' hw'=>?_⟩) (by assumption) ?_
     · clear hHeld
       go_simp
     try simp only [Act.put,sIB,sCZ,sCS]
     refine wpAnyH_take (i:=1) (oi:=⟨some 58,_,_,_,_,_⟩) (v:=.int .u32 c.sg) rfl (by kernel_rfl) (by kernel_rfl) (by kernel_rfl) (fun _ _ _ h=>h) (Or.inl ⟨by rfl,fun w' hw'=>?_⟩) (by assumption) ?_
     · have hcx:=hw'.out.at.1
       clear hHeld hw'
       go_simp
     try simp only [Act.put,sIB,sCZ,sCS]
     refine wpAnyH_take (i:=2) (oi:=⟨some 59,_,_,_,_,_⟩) (v:=.agg (ccs c)) rfl (by kernel_rfl) (by kernel_rfl) (by kernel_rfl) (fun _ _ _ h=>h) (Or.inl ⟨by rfl,fun w' hw'=>z4f rfl (Hid.out hw')⟩) (by assumption) ?_
     try simp only [Act.put,sIB,sCZ,sCS]
     refine wpAnyH_ready (rs:=[3]) (by kernel_rfl) (by simp) (AllReadyH.cons rfl (fun K hK=>?_) (AllReadyH.nil))
     go_simp
     go_wp2_with fail
     refine (HO.out _).mono ?_
     rintro e w5 ⟨rfl,h5⟩
     have hSN:Hid (CB w5 B c):=hid (hHeld.out.later h5)
     have HZ5:=hid (HZ4.out.later h5)
     have HB5:=hid (HB4.out.trans (h5.mono HB4.out.size))
     clear h5 HZ4 HB4 HO
     go_wp2_with fail
     refine hK.out _ _ hSN (fun hHeld2=>?_)
     try simp only [Act.put,sIB,sCZ,sCS]
     clear hSN hK K hHeld
     have hHeld:=hHeld2
     clear hHeld2
     refine wpAnyH_take (i:=4) (oi:=⟨some 61,_,_,_,_,_⟩) (v:=.agg #[.int .u8 9,.int .u32 c.sg,.int .u32 0,.int .u8 0,.bool false,.int .u8 0,.int .u8 0,.int .u8 0,.int .i64 0,.int .u8 o,.int .u8 0,.int .u32 0,.int .u8 0,.slice none 0 0,.slice none 0 0,.slice none 0 0,.int .u8 0,.int .u8 0,.int .u8 0,.int .i64 0]) rfl (by kernel_rfl) (by kernel_rfl) (by kernel_rfl) (fun _ _ _ h=>h) (Or.inl ⟨by rfl,fun w' hw'=>?_⟩) (by assumption) ?_
     · clear hHeld
       go_simp
     try simp only [Act.put,sIB,sCZ,sCS]
     refine wpAnyH_ready (rs:=[5]) (by kernel_rfl) (by simp) (AllReadyH.cons rfl (fun K hK=>?_) (AllReadyH.nil))
     rw [if_pos (by rfl)]
     refine wp_store_row 32 _ _ rfl (B+2) (rcs (rvK (recK 9 c.sg 0 0 false (0,0,0) 0 o))) rfl rfl 32 _ HZ5.out (by kernel_rfl) rfl (z7t _) ?_
     have HZ6:Hid (RB (w5.setRow (B+2) (rcs (rvK (recK 9 c.sg 0 0 false (0,0,0) 0 o)))) (B+2) (rvK (recK 9 c.sg 0 0 false (0,0,0) 0 o))):=hid (HZ5.out.set _)
     have hSN:Hid (CB (w5.setRow (B+2) (rcs (rvK (recK 9 c.sg 0 0 false (0,0,0) 0 o)))) B c):=hid (hHeld.out.chg (S:=fun k=>k=B+2) ⟨rfl,rfl,rfl,by simp [World.setRow],fun k _ hn=>setRow_other _ _ _ _ hn⟩ (by omega))
     have HB6:Hid (Below W.heap.size W (w5.setRow (B+2) (rcs (rvK (recK 9 c.sg 0 0 false (0,0,0) 0 o))))):=hid (below_setRow HB5.out (by have:=HRE.out;omega) _)
     clear HZ5 HB5
     generalize w5.setRow (B+2) (rcs (rvK (recK 9 c.sg 0 0 false (0,0,0) 0 o)))=w6 at *
     refine hK.out _ _ hSN (fun hHeld2=>?_)
     try simp only [Act.put,sIB,sCZ,sCS]
     clear hSN hK K hHeld
     have hHeld:=hHeld2
     clear hHeld2
     refine wpAnyH_done (by kernel_rfl) ?_ _
     clear hHeld
     go_wp2_with fail
     (try simp only [Exit.inBlock,Exit.then])
     try rw [Exit.noGoto_ret]
     refine bodyPost_ret (v:=.agg (rcs (rvK (recK 9 c.sg 0 0 false (0,0,0) 0 o)))) ?_ rfl ⟨by rw [HE.out],HB6.out⟩
     exact z1s rfl _ _ (B+2) _ rfl HZ6.out
   | false =>
    by_cases hr:retry<c.tr
    · have HE:Hid (N=recK 8 c.sg 0 0 false (0,0,0) 0 0):=hid (by rw [HNX.out,if_neg (by omega),if_pos ⟨hb,hr⟩])
      have HBK:=hid hb
      clear HNX HBT HWI HOP HUN HTU HO HAB heq hb
      go_enter Tryd.func17,Tryd.ntmps17
      go_wp2_with fail
      refine z2k ?_
      go_upto_region 1 with (fail)
      rw [HW1.out,HRE.out]
      try rw [show B+1+1=B+2 from rfl]
      go_wp2_with ((with_reducible refine z0e HX.out ?_ ?_);rfl)
      refine hgd.mono ?_
      rintro e w2 ⟨rfl,h2⟩
      have HX2:=hid (HX.out.later h2)
      have HT2:=hid (z0c HT.out h2)
      have HZ2:=hid (HZ.out.later h2)
      have HB2:=hid (HB1.out.trans (h2.mono HB1.out.size))
      clear h2 HX HT HZ
      clear hgd
      have a14:=HX2.out.at.2.2.2.2
      have b4:=(z1q HT2.out).2.2.2.2.1
      obtain⟨a0,a11,a12,a13,_⟩:=HX2.out.at
      rw [HBK.out] at a11
      go_wp2_with (((with_reducible refine z0k (rvK (recK 8 c.sg 0 0 false (0,0,0) 0 0)) HZ2.out ?_ ?_ ?_);rfl;rfl))
      (try simp only [Exit.inBlock,Exit.then])
      try rw [z5h]
      refine bodyPost_ret (v:=.agg (rcs (rvK (recK 8 c.sg 0 0 false (0,0,0) 0 0)))) ?_ rfl ⟨by rw [HE.out],below_setRow HB2.out (by have:=HRE.out;omega) _⟩
      exact z1s rfl _ _ (B+2) _ rfl (HZ2.out.set _)
    · have HBE:Hid (N=if ty then recK 2 c.sg id a c.bk (0,0,0) 0 0 else recK 9 c.sg 0 0 false (0,0,0) 0 o):=hid (by rw [HNX.out,if_neg (by omega),if_neg (fun h=>hr h.2),HBT.out])
      have HBK:=hid hb
      clear HNX HBT HWI HOP HUN heq hb
      go_enter Tryd.func17,Tryd.ntmps17
      go_wp2_with fail
      refine z2k ?_
      go_upto_region 1 with (fail)
      rw [HW1.out,HRE.out]
      try rw [show B+1+1=B+2 from rfl]
      go_wp2_with ((with_reducible refine z0e HX.out ?_ ?_);rfl)
      refine hgd.mono ?_
      rintro e w2 ⟨rfl,h2⟩
      have HX2:=hid (HX.out.later h2)
      have HT2:=hid (z0c HT.out h2)
      have HZ2:=hid (HZ.out.later h2)
      have HB2:=hid (HB1.out.trans (h2.mono HB1.out.size))
      clear h2 HX HT HZ
      clear hgd
      have a14:=HX2.out.at.2.2.2.2
      have b4:=(z1q HT2.out).2.2.2.2.1
      obtain⟨a0,a11,a12,a13,_⟩:=HX2.out.at
      rw [HBK.out] at a11
      go_wp2_with fail
      clear a14 b4 a0 a11 a12 a13
      go_step3
      go_wp2_with ((with_reducible refine z0e HX2.out ?_ ?_);rfl)
      refine (HTU.out _ HB2.out).mono ?_
      rintro e w3 ⟨rfl,h3⟩
      have HX3:=hid (HX2.out.later h3)
      have HT3:=hid (z0c HT2.out h3)
      have HZ3:=hid (HZ2.out.later h3)
      have HB3:=hid (HB2.out.trans (h3.mono HB2.out.size))
      clear h3 HX2 HT2 HZ2
      clear HTU
      have a0:=HX3.out.at.1
      have a11:=HX3.out.at.2.1
      cases ty
      case true =>
       obtain⟨hab,hwa⟩:=HAB.out rfl
       have HE:Hid (N=recK 2 c.sg id a c.bk (0,0,0) 0 0):=hid (by rw [HBE.out];rfl)
       clear HBE HO
       go_wp2_with (((with_reducible refine z0k (rvK (recK 2 c.sg id a c.bk (0,0,0) 0 0)) HZ3.out ?_ ?_ ?_);rfl;rfl))
       (try simp only [Exit.inBlock,Exit.then])
       try rw [z5h]
       refine bodyPost_ret (v:=.agg (rcs (rvK (recK 2 c.sg id a c.bk (0,0,0) 0 0)))) ?_ rfl ⟨by rw [HE.out],below_setRow HB3.out (by have:=HRE.out;omega) _⟩
       exact z1s rfl _ _ (B+2) _ rfl (HZ3.out.set _)
      case false =>
       have HE:Hid (N=recK 9 c.sg 0 0 false (0,0,0) 0 o):=hid (by rw [HBE.out];rfl)
       clear HBE HAB a11
       go_upto_region 12 with (fail)
       have hbd:CB w3.drew B c:=HX3.out
       have HZ4:Hid (RB w3.drew (B+2) rz):=hid HZ3.out
       have HB4:Hid (Below W.heap.size W w3.drew):=hid HB3.out.drew
       refine wp_region_held_drew (S:=fun w'=>Hid (CB w' B c)) (by kernel_rfl) (hid hbd) (fun hHeld=>?_)
       clear hbd a0 HX3 HZ3 HB3 HT3
       generalize w3.drew=Wd at *
       refine wpAnyH_take (i:=0) (oi:=⟨some 57,_,_,_,_,_⟩) (v:=.pointer (some ⟨B,0,none⟩)) rfl (by kernel_rfl) (by kernel_rfl) (by kernel_rfl) (fun _ _ _ h=>h) (Or.inl ⟨by rfl,fun w' hw'=>?_⟩) (by assumption) ?_
       · clear hHeld
         go_simp
       try simp only [Act.put,sIB,sCZ,sCS]
       refine wpAnyH_take (i:=1) (oi:=⟨some 58,_,_,_,_,_⟩) (v:=.int .u32 c.sg) rfl (by kernel_rfl) (by kernel_rfl) (by kernel_rfl) (fun _ _ _ h=>h) (Or.inl ⟨by rfl,fun w' hw'=>?_⟩) (by assumption) ?_
       · have hcx:=hw'.out.at.1
         clear hHeld hw'
         go_simp
       try simp only [Act.put,sIB,sCZ,sCS]
       refine wpAnyH_take (i:=2) (oi:=⟨some 59,_,_,_,_,_⟩) (v:=.agg (ccs c)) rfl (by kernel_rfl) (by kernel_rfl) (by kernel_rfl) (fun _ _ _ h=>h) (Or.inl ⟨by rfl,fun w' hw'=>z4f rfl (Hid.out hw')⟩) (by assumption) ?_
       try simp only [Act.put,sIB,sCZ,sCS]
       refine wpAnyH_ready (rs:=[3]) (by kernel_rfl) (by simp) (AllReadyH.cons rfl (fun K hK=>?_) (AllReadyH.nil))
       go_simp
       go_wp2_with fail
       refine (HO.out _).mono ?_
       rintro e w5 ⟨rfl,h5⟩
       have hSN:Hid (CB w5 B c):=hid (hHeld.out.later h5)
       have HZ5:=hid (HZ4.out.later h5)
       have HB5:=hid (HB4.out.trans (h5.mono HB4.out.size))
       clear h5 HZ4 HB4 HO
       go_wp2_with fail
       refine hK.out _ _ hSN (fun hHeld2=>?_)
       try simp only [Act.put,sIB,sCZ,sCS]
       clear hSN hK K hHeld
       have hHeld:=hHeld2
       clear hHeld2
       refine wpAnyH_take (i:=4) (oi:=⟨some 61,_,_,_,_,_⟩) (v:=.agg #[.int .u8 9,.int .u32 c.sg,.int .u32 0,.int .u8 0,.bool false,.int .u8 0,.int .u8 0,.int .u8 0,.int .i64 0,.int .u8 o,.int .u8 0,.int .u32 0,.int .u8 0,.slice none 0 0,.slice none 0 0,.slice none 0 0,.int .u8 0,.int .u8 0,.int .u8 0,.int .i64 0]) rfl (by kernel_rfl) (by kernel_rfl) (by kernel_rfl) (fun _ _ _ h=>h) (Or.inl ⟨by rfl,fun w' hw'=>?_⟩) (by assumption) ?_
       · clear hHeld
         go_simp
       try simp only [Act.put,sIB,sCZ,sCS]
       refine wpAnyH_ready (rs:=[5]) (by kernel_rfl) (by simp) (AllReadyH.cons rfl (fun K hK=>?_) (AllReadyH.nil))
       rw [if_pos (by rfl)]
       refine wp_store_row 32 _ _ rfl (B+2) (rcs (rvK (recK 9 c.sg 0 0 false (0,0,0) 0 o))) rfl rfl 32 _ HZ5.out (by kernel_rfl) rfl (z7t _) ?_
       have HZ6:Hid (RB (w5.setRow (B+2) (rcs (rvK (recK 9 c.sg 0 0 false (0,0,0) 0 o)))) (B+2) (rvK (recK 9 c.sg 0 0 false (0,0,0) 0 o))):=hid (HZ5.out.set _)
       have hSN:Hid (CB (w5.setRow (B+2) (rcs (rvK (recK 9 c.sg 0 0 false (0,0,0) 0 o)))) B c):=hid (hHeld.out.chg (S:=fun k=>k=B+2) ⟨rfl,rfl,rfl,by simp [World.setRow],fun k _ hn=>setRow_other _ _ _ _ hn⟩ (by omega))
       have HB6:Hid (Below W.heap.size W (w5.setRow (B+2) (rcs (rvK (recK 9 c.sg 0 0 false (0,0,0) 0 o))))):=hid (below_setRow HB5.out (by have:=HRE.out;omega) _)
       clear HZ5 HB5
       generalize w5.setRow (B+2) (rcs (rvK (recK 9 c.sg 0 0 false (0,0,0) 0 o)))=w6 at *
       refine hK.out _ _ hSN (fun hHeld2=>?_)
       try simp only [Act.put,sIB,sCZ,sCS]
       clear hSN hK K hHeld
       have hHeld:=hHeld2
       clear hHeld2
       refine wpAnyH_done (by kernel_rfl) ?_ _
       clear hHeld
       go_wp2_with fail
       (try simp only [Exit.inBlock,Exit.then])
       try rw [z5h]
       refine bodyPost_ret (v:=.agg (rcs (rvK (recK 9 c.sg 0 0 false (0,0,0) 0 o)))) ?_ rfl ⟨by rw [HE.out],HB6.out⟩
       exact z1s rfl _ _ (B+2) _ rfl HZ6.out
end Go.Proofs.YtnpjpelbcmgodaaDoor
