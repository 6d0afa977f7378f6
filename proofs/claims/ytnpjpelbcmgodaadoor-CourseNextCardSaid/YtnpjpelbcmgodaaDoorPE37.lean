import Derived.Test.YtnpjpelbcmgodaaDoorPE99
import Derived.Test.YtnpjpelbcmgodaaDoorPE36
namespace Go.Proofs.YtnpjpelbcmgodaaDoor
open Go.Lib (hid)
set_option maxHeartbeats 8000000
open Go.RowKit Go.ChangeShapes Go.WideShapes
set_option linter.unusedVariables false
set_option linter.unusedSimpArgs false
set_option maxRecDepth 10000
theorem held_load_rpr {a:Act} {w:World} {dst:Option Tmp} {x:Operand} {ty:TypeId} {pos:String} {after:Array Edge} {gd:Option (Nat × Bool)} {B:Nat} {r:Rv} (hx:a.eval x=.pointer (some ⟨B,10,none⟩)) (hC:RB w B r) :
 (execOp a.eval (Oper.mk dst (.load 26 x) ty pos after gd)).run Tryd.prog w=.ok (.value (.agg (pcs r))) w:=by
 unfold execOp
 simp only [hx,Instr.loadAt,Instr.sureAddr,Sem.run_bind,Sem.run_pure,Result.andThen_ok,z1u w B 10 32 26 (rcs r) (pcs r) (0,0) _ hC (z7d r) Tryd.underlying26 rfl (by kernel_rfl)]
theorem cr_two0 (W:World) (r:Rv):∃ W1,(W.alloc (.cells (rcs r) 32)).alloc (.cells #[.int .u32 0,.int .u8 0,.int .u32 0,.int .u8 0,.slice none 0 0,.slice none 0 0,.slice none 0 0,.int .u8 0,.int .u8 0,.int .u8 0,.int .i64 0,.bool false,.int .i64 0,.int .i64 0,.int .u32 0] 28)=W1∧RB W1 W.heap.size r∧CB W1 (W.heap.size+1) cz∧W1.heap.size=W.heap.size+2∧Below W.heap.size W W1:=by
 have hb0:Below W.heap.size W (W.alloc (.cells (rcs r) 32)):=(Below.refl _ _).alloc (Nat.le_refl _) _
 have hs:(W.alloc (.cells (rcs r) 32)).heap.size=W.heap.size+1:=by simp only [World.alloc,Array.size_push]
 have hb1:Below (W.alloc (.cells (rcs r) 32)).heap.size (W.alloc (.cells (rcs r) 32)) ((W.alloc (.cells (rcs r) 32)).alloc (.cells #[.int .u32 0,.int .u8 0,.int .u32 0,.int .u8 0,.slice none 0 0,.slice none 0 0,.slice none 0 0,.int .u8 0,.int .u8 0,.int .u8 0,.int .i64 0,.bool false,.int .i64 0,.int .i64 0,.int .u32 0] 28)):=(Below.refl _ _).alloc (Nat.le_refl _) _
 refine⟨_,rfl,(RB.new W r).later hb1,?_,by simp only [World.alloc,Array.size_push],hb0.trans (hb1.mono hb0.size)⟩
 have h:=CB.new (W.alloc (.cells (rcs r) 32)) cz
 rw [hs] at h
 exact h
theorem cr_start (r:Rv) (L:List Ln) (T:List Tk) (M:List Ln) (W:World) (hw:Words W) (hR:RvM W r L T M) (hrk:Rxok (r.x L T M)) (h2:r.ln≤400∧r.tn≤400∧r.wn≤400):Calls Tryd.prog 11 #[.agg (rcs r)] W (z8e W (z6t (r.x L T M)).1 (z6t (r.x L T M)).2):=by
 obtain⟨W1,hW1,hy,hz,hsz,hb1⟩:=cr_two0 W r
 obtain⟨B,hB⟩:∃ B,W.heap.size=B:=⟨_,rfl⟩
 rw [hB] at hy hz hsz
 have HY:=hid hy
 have HZ:=hid hz
 have HW1:=hid hW1
 have HB1:=hid hb1
 have HRE:=hid hB
 have HSZ:=hid hsz
 have HR:=hid (rec_good r L T M W1 (hw.later hb1) (hR.later hb1) hrk h2)
 have HCP:=hid (copy_p2 r.pk r.od r.po r.lp r.ln r.lcp r.tp r.tn r.tcp r.wp r.wn r.wcp r.sk r.fr r.to r.q L T M)
 have HRM:=hid (hR.later hb1)
 have HLM:Hid (r.ln≤1000∧r.tn≤1000∧r.wn≤1000):=hid ⟨by omega,by omega,by omega⟩
 have HSX:Hid (z6t (r.x L T M)=if r.k=1∧z7s (r.x L T M)=true then (⟨r.sg,r.pg L T M,false,0,0,0⟩,0) else (noC,1)):=hid rfl
 obtain⟨g,hg⟩:∃ g,z7s (r.x L T M)=g:=⟨_,rfl⟩
 rw [hg] at HR HSX
 generalize z6t (r.x L T M)=A at *
 have y0:=hy.at.1
 clear hW1 hy hz hsz hb1 hB hw hR hrk h2 hg
 have HNO:Hid (∀ w',Below W.heap.size W w'→RvM (w'.setRow (B+1) (ccs cz)) cz.p [] [] []):=hid fun w' _=>rz_m _
 by_cases hk:r.k=1
 case neg =>
  have b1:(r.k != 1)=true:=bne_iff_ne.2 hk
  have HE:Hid (A=(noC,1)):=hid (by rw [HSX.out,if_neg (fun h=>hk h.1)])
  have HZF:=hid (HZ.out.set cz)
  clear HR HCP HRM HLM HSX hk
  go_enter Tryd.func11,Tryd.ntmps11
  go_upto_region 1 with (fail)
  rw [HW1.out,HRE.out]
  go_wp2_with ((with_reducible refine z0m cz HZ.out ?_ ?_ ?_);rfl;rfl)
  (try simp only [Exit.inBlock,Exit.then])
  refine bodyPost_ret (v:=.tuple #[.agg (ccs cz),.int .i64 1]) ?_ rfl ?_
  · exact z4x rfl _ _ (B+1) _ _ rfl rfl HZF.out
  · rw [HE.out]
    exact⟨cz,[],[],[],rfl,HNO.out _ HB1.out,cz_x,below_setRow HB1.out (by have:=HRE.out;omega) _⟩
 case pos =>
 rw [hk] at y0
 cases g with
 | false =>
  have HE:Hid (A=(noC,1)):=hid (by rw [HSX.out,if_neg (fun h=>by cases h.2)])
  clear HCP HRM HLM HSX hk
  go_enter Tryd.func11,Tryd.ntmps11
  go_upto_region 1 with (fail)
  rw [HW1.out,HRE.out]
  go_wp2_with ((with_reducible refine z0v HY.out ?_ ?_ ?_);rfl;rfl)
  refine HR.out.mono ?_
  rintro e w2 ⟨rfl,h2⟩
  have HZ2:=hid (HZ.out.later h2)
  have HB2:=hid (HB1.out.trans (h2.mono HB1.out.size))
  have HZF:=hid (HZ2.out.set cz)
  clear h2 HR y0
  go_wp2_with ((with_reducible refine z0m cz HZ2.out ?_ ?_ ?_);rfl;rfl)
  (try simp only [Exit.inBlock,Exit.then])
  refine bodyPost_ret (v:=.tuple #[.agg (ccs cz),.int .i64 1]) ?_ rfl ?_
  · exact z4x rfl _ _ (B+1) _ _ rfl rfl HZF.out
  · rw [HE.out]
    exact⟨cz,[],[],[],rfl,HNO.out _ HB2.out,cz_x,below_setRow HB2.out (by have:=HRE.out;omega) _⟩
 | true =>
  have HE:Hid (A=(⟨r.sg,r.pg L T M,false,0,0,0⟩,0)):=hid (by rw [HSX.out,if_pos ⟨hk,rfl⟩])
  clear HNO HSX hk
  go_enter Tryd.func11,Tryd.ntmps11
  go_upto_region 1 with (fail)
  rw [HW1.out,HRE.out]
  go_wp2_with ((with_reducible refine z0v HY.out ?_ ?_ ?_);rfl;rfl)
  refine HR.out.mono ?_
  rintro e w2 ⟨rfl,h2⟩
  have HY2:=hid (HY.out.later h2)
  have HZ2:=hid (HZ.out.later h2)
  have HB2:=hid (HB1.out.trans (h2.mono HB1.out.size))
  have HM2:=hid (HRM.out.later h2)
  have HS2:=hid h2.size
  clear h2 HR y0 HY HZ HRM
  go_upto_region 3 with (fail)
  have hbd:RB w2.drew B r:=HY2.out
  have HZ3:Hid (CB w2.drew (B+1) cz):=hid HZ2.out
  have HB3:Hid (Below W.heap.size W w2.drew):=hid HB2.out.drew
  have HM3:Hid (RvM w2.drew r L T M):=hid (HM2.out.later (Below.refl _ _).drew)
  have HS3:Hid (B+2≤w2.drew.heap.size):=hid (by have h1:=HSZ.out;have h2:=HS2.out;show B+2≤w2.heap.size;omega)
  refine wp_region_held_drew (S:=fun w'=>Hid (RB w' B r)) (by kernel_rfl) (hid hbd) (fun hHeld=>?_)
  clear hbd HY2 HZ2 HB2 HM2 HS2
  generalize w2.drew=Wd at *
  refine wpAnyH_take (i:=0) (oi:=⟨some 13,_,_,_,_,_⟩) (v:=.pointer (some ⟨B,1,none⟩)) rfl (by kernel_rfl) (by kernel_rfl) (by kernel_rfl) (fun _ _ _ h=>h) (Or.inl ⟨by rfl,fun w' hw'=>?_⟩) (by assumption) ?_
  · clear hHeld
    go_simp
  try simp only [Act.put,sIB,sCZ,sCS]
  refine wpAnyH_take (i:=1) (oi:=⟨some 14,_,_,_,_,_⟩) (v:=.int .u32 r.sg) rfl (by kernel_rfl) (by kernel_rfl) (by kernel_rfl) (fun _ _ _ h=>h) (Or.inl ⟨by rfl,fun w' hw'=>?_⟩) (by assumption) ?_
  · have hcx:=hw'.out.at.2.1
    clear hHeld hw'
    go_simp
  try simp only [Act.put,sIB,sCZ,sCS]
  refine wpAnyH_take (i:=2) (oi:=⟨some 15,_,_,_,_,_⟩) (v:=.pointer (some ⟨B,10,none⟩)) rfl (by kernel_rfl) (by kernel_rfl) (by kernel_rfl) (fun _ _ _ h=>h) (Or.inl ⟨by rfl,fun w' hw'=>?_⟩) (by assumption) ?_
  · clear hHeld
    go_simp
  try simp only [Act.put,sIB,sCZ,sCS]
  refine wpAnyH_take (i:=3) (oi:=⟨some 16,_,_,_,_,_⟩) (v:=.agg (pcs r)) rfl (by kernel_rfl) (by kernel_rfl) (by kernel_rfl) (fun _ _ _ h=>h) (Or.inl ⟨by rfl,fun w' hw'=>held_load_rpr rfl (Hid.out hw')⟩) (by assumption) ?_
  try simp only [Act.put,sIB,sCZ,sCS]
  refine wpAnyH_ready (rs:=[4]) (by kernel_rfl) (by simp) (AllReadyH.cons rfl (fun K hK=>?_) (AllReadyH.nil))
  go_simp
  go_wp2_with fail
  refine (HCP.out Wd HM3.out HLM.out).mono ?_
  rintro e w4 ⟨lp,lc,tp,tc,wp,wc,rfl,hpm,_,ht4,hb4,hl4,ho4⟩
  have HFA:Hid ((∀ a,lp=some a→a.block≠B+1)∧(∀ a,tp=some a→a.block≠B+1)∧(∀ a,wp=some a→a.block≠B+1)):=hid (by
   have h:=HS3.out
   exact⟨fun a ha=>by have:=hl4 a ha;omega,fun a ha=>by have:=ht4 a ha;omega,fun a ha=>by have:=ho4 a ha;omega⟩)
  have hSN:Hid (RB w4 B r):=hid (hHeld.out.later hb4)
  have HZ4:=hid (HZ3.out.later hb4)
  have HB4:=hid (HB3.out.trans (hb4.mono HB3.out.size))
  have HM4:=hid hpm
  clear hpm ht4 hb4 hl4 ho4 HZ3 HB3 HM3 HS3
  go_wp2_with fail
  refine hK.out _ _ hSN (fun hHeld2=>?_)
  try simp only [Act.put,sIB,sCZ,sCS]
  clear hSN hK K hHeld
  have hHeld:=hHeld2
  clear hHeld2
  obtain⟨cc,hcc⟩:∃ cc:Cv,cc=⟨r.sg,prV ⟨r.pk,r.od,r.po,L,T,M,r.sk,r.fr,r.to,r.q⟩ lp lc tp tc wp wc,false,0,0,0⟩:=⟨_,rfl⟩
  have hcs:(#[.int .u32 r.sg,.int .u8 r.pk,.int .u32 r.od,.int .u8 r.po,.slice lp L.length lc,.slice tp T.length tc,.slice wp M.length wc,.int .u8 r.sk,.int .u8 r.fr,.int .u8 r.to,.int .i64 r.q,.bool false,.int .i64 0,.int .i64 0,.int .u32 0]:Array Value)=ccs cc:=by rw [hcc];rfl
  have HCS:=hid hcs
  have HXX:Hid (cc.x L T M=⟨r.sg,r.pg L T M,false,0,0,0⟩):=hid (by rw [hcc];rfl)
  have HPM:Hid (RvM (w4.setRow (B+1) (ccs cc)) cc.p L T M):=hid (z4a (R:=B+1) (by rw [hcc];exact HM4.out) (ccs cc) (by rw [hcc];exact HFA.out.1) (by rw [hcc];exact HFA.out.2.1) (by rw [hcc];exact HFA.out.2.2))
  clear hcc hcs
  refine wpAnyH_take (i:=5) (oi:=⟨some 18,_,_,_,_,_⟩) (v:=.agg #[.int .u32 r.sg,.int .u8 r.pk,.int .u32 r.od,.int .u8 r.po,.slice lp L.length lc,.slice tp T.length tc,.slice wp M.length wc,.int .u8 r.sk,.int .u8 r.fr,.int .u8 r.to,.int .i64 r.q,.bool false,.int .i64 0,.int .i64 0,.int .u32 0]) rfl (by kernel_rfl) (by kernel_rfl) (by kernel_rfl) (fun _ _ _ h=>h) (Or.inl ⟨by rfl,fun w' hw'=>?_⟩) (by assumption) ?_
  · clear hHeld
    go_simp
  try simp only [Act.put,sIB,sCZ,sCS]
  rw [HCS.out]
  refine wpAnyH_ready (rs:=[6]) (by kernel_rfl) (by simp) (AllReadyH.cons rfl (fun K hK=>?_) (AllReadyH.nil))
  rw [if_pos (by rfl)]
  refine wp_store_row 28 _ _ rfl (B+1) (ccs cc) rfl rfl 28 _ HZ4.out (by kernel_rfl) rfl (ccs_one cc) ?_
  have HZF:Hid (CB (w4.setRow (B+1) (ccs cc)) (B+1) cc):=hid (HZ4.out.set cc)
  have hSN:Hid (RB (w4.setRow (B+1) (ccs cc)) B r):=hid (hHeld.out.chg (S:=fun k=>k=B+1) ⟨rfl,rfl,rfl,by simp [World.setRow],fun k _ hn=>setRow_other _ _ _ _ hn⟩ (by omega))
  have HB5:Hid (Below W.heap.size W (w4.setRow (B+1) (ccs cc))):=hid (below_setRow HB4.out (by have:=HRE.out;omega) _)
  clear HZ4 HB4 HM4
  generalize w4.setRow (B+1) (ccs cc)=w5 at *
  refine hK.out _ _ hSN (fun hHeld2=>?_)
  try simp only [Act.put,sIB,sCZ,sCS]
  clear hSN hK K hHeld
  have hHeld:=hHeld2
  clear hHeld2
  refine wpAnyH_take (i:=7) (oi:=⟨some 3,_,_,_,_,_⟩) (v:=.int .i64 0) rfl (by kernel_rfl) (by kernel_rfl) (by kernel_rfl) (fun _ _ _ h=>h) (Or.inl ⟨by rfl,fun w' hw'=>?_⟩) (by assumption) ?_
  · clear hHeld
    go_simp
  try simp only [Act.put,sIB,sCZ,sCS]
  refine wpAnyH_done (by kernel_rfl) ?_ _
  clear hHeld
  go_wp2_with fail
  (try simp only [Exit.inBlock,Exit.then])
  refine bodyPost_ret (v:=.tuple #[.agg (ccs cc),.int .i64 0]) ?_ rfl ?_
  · exact z4x rfl _ _ (B+1) _ _ rfl rfl HZF.out
  · rw [HE.out]
    exact⟨cc,L,T,M,rfl,HPM.out,HXX.out,HB5.out⟩
theorem z6d (c:Cv) (L:List Ln) (T:List Tk) (M:List Ln) (W:World) (hP:CvM W c L T M) (hok:Crok (c.x L T M)) (h1:c.p.ln≤400∧c.p.tn≤400∧c.p.wn≤400):Calls Tryd.prog 15 #[.agg (ccs c)] W fun e w'=>e=.returned (.bool (z2d (c.x L T M)))∧Below W.heap.size W w':=by
 obtain⟨W1,hW1,hx,hb1⟩:∃ W1,W.alloc (.cells (ccs c) 28)=W1∧CB W1 W.heap.size c∧Below W.heap.size W W1:=⟨_,rfl,CB.new W c,(Below.refl _ _).alloc (Nat.le_refl _) _⟩
 obtain⟨B,hB⟩:∃ B,W.heap.size=B:=⟨_,rfl⟩
 rw [hB] at hx
 have HX:=hid hx
 have HW1:=hid hW1
 have HB1:=hid hb1
 have HRE:=hid hB
 have HG:Hid (∀ w',Below W1.heap.size W1 w'→Calls Tryd.prog 40 #[.int .i64 4,.int .i64 4,.agg (pcs c.p)] w' fun e w''=>e=.returned (.bool (z0o 4 4 (c.p.pg L T M)))∧Below w'.heap.size w' w''):=hid fun w' hb=>z6l 4 4 c.p.pk c.p.od c.p.po c.p.lp c.p.ln c.p.lcp c.p.tp c.p.tn c.p.tcp c.p.wp c.p.wn c.p.wcp c.p.sk c.p.fr c.p.to c.p.q L T M w' ((hP.later hb1).later hb) hok.P ⟨by omega,by omega,by omega⟩
 have HS:Hid (∀ w',Below W1.heap.size W1 w'→Calls Tryd.prog 41 #[.agg (pcs c.p)] w' (GivesS w' (z0l (c.p.pg L T M)))):=hid fun w' hb=>z5z c.p.pk c.p.od c.p.po c.p.lp c.p.ln c.p.lcp c.p.tp c.p.tn c.p.tcp c.p.wp c.p.wn c.p.wcp c.p.sk c.p.fr c.p.to c.p.q L T M w' ((hP.later hb1).later hb) hok.P ⟨by omega,by omega,by omega⟩
 have HGC:Hid (z2d (c.x L T M)=((c.sg != 0) && z0o 4 4 (c.p.pg L T M) && decide (0≤c.st) && decide (c.st≤((z0l (c.p.pg L T M)).length:Int)) && decide (0≤c.tr))):=hid rfl
 obtain⟨g,hg⟩:∃ g,z0o 4 4 (c.p.pg L T M)=g:=⟨_,rfl⟩
 obtain⟨S,hS⟩:∃ S,z0l (c.p.pg L T M)=S:=⟨_,rfl⟩
 rw [hg] at HG HGC
 rw [hS] at HS HGC
 generalize z2d (c.x L T M)=G at *
 clear hW1 hx hb1 hB hg hS hP hok h1
 cases q1:(c.sg != 0)
 case false =>
  go_enter Tryd.func15,Tryd.ntmps15
  go_upto_region 1 with (fail)
  rw [HW1.out,HRE.out]
  have hbd:Below W1.heap.size W1 W1.drew:=(Below.refl _ _).drew
  refine wp_region_held_drew (S:=fun w'=>Hid (Below W1.heap.size W1 w')) (by kernel_rfl) (hid hbd) (fun hHeld=>?_)
  clear hbd
  generalize W1.drew=Wd at *
  refine wpAnyH_take (i:=0) (oi:=⟨some 3,_,_,_,_,_⟩) (v:=.pointer (some ⟨B,0,none⟩)) rfl (by kernel_rfl) (by kernel_rfl) (by kernel_rfl) (fun _ _ _ h=>h) (Or.inl ⟨by rfl,fun w' hw'=>?_⟩) (by assumption) ?_
  · clear hHeld
    go_simp
  try simp only [Act.put,sIB,sCZ,sCS]
  refine wpAnyH_take (i:=1) (oi:=⟨some 4,_,_,_,_,_⟩) (v:=.int .u32 c.sg) rfl (by kernel_rfl) (by kernel_rfl) (by kernel_rfl) (fun _ _ _ h=>h) (Or.inl ⟨by rfl,fun w' hw'=>?_⟩) (by assumption) ?_
  · have hcx:=(HX.out.later hw'.out).at.1
    clear hHeld hw'
    go_simp
  try simp only [Act.put,sIB,sCZ,sCS]
  refine wpAnyH_take (i:=2) (oi:=⟨some 5,_,_,_,_,_⟩) (v:=.bool false) rfl (by kernel_rfl) (by kernel_rfl) (by kernel_rfl) (fun _ _ _ h=>h) (Or.inl ⟨by rfl,fun w' hw'=>?_⟩) (by assumption) ?_
  · clear hHeld
    go_simp
  try simp only [Act.put,sIB,sCZ,sCS]
  refine wpAnyH_take (i:=3) (oi:=⟨some 6,_,_,_,_,_⟩) (v:=.bool false) rfl (by kernel_rfl) (by kernel_rfl) (by kernel_rfl) (fun _ _ _ h=>h) (Or.inl ⟨by rfl,fun w' hw'=>?_⟩) (by assumption) ?_
  · clear hHeld
    go_simp
  try simp only [Act.put,sIB,sCZ,sCS]
  refine wpAnyH_take (i:=4) (oi:=⟨some 7,_,_,_,_,_⟩) (v:=undef) rfl (by kernel_rfl) (by kernel_rfl) (by kernel_rfl) (fun _ _ _ h=>h) (Or.inr ⟨by rfl,rfl⟩) (by assumption) ?_
  try simp only [Act.put,sIB,sCZ,sCS]
  refine wpAnyH_take (i:=5) (oi:=⟨some 8,_,_,_,_,_⟩) (v:=undef) rfl (by kernel_rfl) (by kernel_rfl) (by kernel_rfl) (fun _ _ _ h=>h) (Or.inr ⟨by rfl,rfl⟩) (by assumption) ?_
  try simp only [Act.put,sIB,sCZ,sCS]
  refine wpAnyH_take (i:=6) (oi:=⟨some 9,_,_,_,_,_⟩) (v:=undef) rfl (by kernel_rfl) (by kernel_rfl) (by kernel_rfl) (fun _ _ _ h=>h) (Or.inr ⟨by rfl,rfl⟩) (by assumption) ?_
  try simp only [Act.put,sIB,sCZ,sCS]
  refine wpAnyH_take (i:=7) (oi:=⟨some 10,_,_,_,_,_⟩) (v:=.bool false) rfl (by kernel_rfl) (by kernel_rfl) (by kernel_rfl) (fun _ _ _ h=>h) (Or.inl ⟨by rfl,fun w' hw'=>?_⟩) (by assumption) ?_
  · clear hHeld
    go_simp
  try simp only [Act.put,sIB,sCZ,sCS]
  refine wpAnyH_take (i:=8) (oi:=⟨some 11,_,_,_,_,_⟩) (v:=.bool false) rfl (by kernel_rfl) (by kernel_rfl) (by kernel_rfl) (fun _ _ _ h=>h) (Or.inl ⟨by rfl,fun w' hw'=>?_⟩) (by assumption) ?_
  · clear hHeld
    go_simp
  try simp only [Act.put,sIB,sCZ,sCS]
  refine wpAnyH_take (i:=9) (oi:=⟨some 12,_,_,_,_,_⟩) (v:=undef) rfl (by kernel_rfl) (by kernel_rfl) (by kernel_rfl) (fun _ _ _ h=>h) (Or.inr ⟨by rfl,rfl⟩) (by assumption) ?_
  try simp only [Act.put,sIB,sCZ,sCS]
  refine wpAnyH_take (i:=10) (oi:=⟨some 13,_,_,_,_,_⟩) (v:=undef) rfl (by kernel_rfl) (by kernel_rfl) (by kernel_rfl) (fun _ _ _ h=>h) (Or.inr ⟨by rfl,rfl⟩) (by assumption) ?_
  try simp only [Act.put,sIB,sCZ,sCS]
  refine wpAnyH_take (i:=11) (oi:=⟨some 14,_,_,_,_,_⟩) (v:=undef) rfl (by kernel_rfl) (by kernel_rfl) (by kernel_rfl) (fun _ _ _ h=>h) (Or.inr ⟨by rfl,rfl⟩) (by assumption) ?_
  try simp only [Act.put,sIB,sCZ,sCS]
  refine wpAnyH_take (i:=12) (oi:=⟨some 15,_,_,_,_,_⟩) (v:=.bool false) rfl (by kernel_rfl) (by kernel_rfl) (by kernel_rfl) (fun _ _ _ h=>h) (Or.inl ⟨by rfl,fun w' hw'=>?_⟩) (by assumption) ?_
  · clear hHeld
    go_simp
  try simp only [Act.put,sIB,sCZ,sCS]
  refine wpAnyH_take (i:=13) (oi:=⟨some 16,_,_,_,_,_⟩) (v:=.bool false) rfl (by kernel_rfl) (by kernel_rfl) (by kernel_rfl) (fun _ _ _ h=>h) (Or.inl ⟨by rfl,fun w' hw'=>?_⟩) (by assumption) ?_
  · clear hHeld
    go_simp
  try simp only [Act.put,sIB,sCZ,sCS]
  refine wpAnyH_take (i:=14) (oi:=⟨some 17,_,_,_,_,_⟩) (v:=undef) rfl (by kernel_rfl) (by kernel_rfl) (by kernel_rfl) (fun _ _ _ h=>h) (Or.inr ⟨by rfl,rfl⟩) (by assumption) ?_
  try simp only [Act.put,sIB,sCZ,sCS]
  refine wpAnyH_take (i:=15) (oi:=⟨some 18,_,_,_,_,_⟩) (v:=undef) rfl (by kernel_rfl) (by kernel_rfl) (by kernel_rfl) (fun _ _ _ h=>h) (Or.inr ⟨by rfl,rfl⟩) (by assumption) ?_
  try simp only [Act.put,sIB,sCZ,sCS]
  refine wpAnyH_take (i:=16) (oi:=⟨some 19,_,_,_,_,_⟩) (v:=undef) rfl (by kernel_rfl) (by kernel_rfl) (by kernel_rfl) (fun _ _ _ h=>h) (Or.inr ⟨by rfl,rfl⟩) (by assumption) ?_
  try simp only [Act.put,sIB,sCZ,sCS]
  refine wpAnyH_take (i:=17) (oi:=⟨some 20,_,_,_,_,_⟩) (v:=undef) rfl (by kernel_rfl) (by kernel_rfl) (by kernel_rfl) (fun _ _ _ h=>h) (Or.inr ⟨by rfl,rfl⟩) (by assumption) ?_
  try simp only [Act.put,sIB,sCZ,sCS]
  refine wpAnyH_take (i:=18) (oi:=⟨some 21,_,_,_,_,_⟩) (v:=undef) rfl (by kernel_rfl) (by kernel_rfl) (by kernel_rfl) (fun _ _ _ h=>h) (Or.inr ⟨by rfl,rfl⟩) (by assumption) ?_
  try simp only [Act.put,sIB,sCZ,sCS]
  refine wpAnyH_take (i:=19) (oi:=⟨some 22,_,_,_,_,_⟩) (v:=undef) rfl (by kernel_rfl) (by kernel_rfl) (by kernel_rfl) (fun _ _ _ h=>h) (Or.inr ⟨by rfl,rfl⟩) (by assumption) ?_
  try simp only [Act.put,sIB,sCZ,sCS]
  refine wpAnyH_take (i:=20) (oi:=⟨some 23,_,_,_,_,_⟩) (v:=undef) rfl (by kernel_rfl) (by kernel_rfl) (by kernel_rfl) (fun _ _ _ h=>h) (Or.inr ⟨by rfl,rfl⟩) (by assumption) ?_
  try simp only [Act.put,sIB,sCZ,sCS]
  refine wpAnyH_take (i:=21) (oi:=⟨some 24,_,_,_,_,_⟩) (v:=.bool false) rfl (by kernel_rfl) (by kernel_rfl) (by kernel_rfl) (fun _ _ _ h=>h) (Or.inl ⟨by rfl,fun w' hw'=>?_⟩) (by assumption) ?_
  · clear hHeld
    go_simp
  try simp only [Act.put,sIB,sCZ,sCS]
  refine wpAnyH_take (i:=22) (oi:=⟨some 25,_,_,_,_,_⟩) (v:=.bool false) rfl (by kernel_rfl) (by kernel_rfl) (by kernel_rfl) (fun _ _ _ h=>h) (Or.inl ⟨by rfl,fun w' hw'=>?_⟩) (by assumption) ?_
  · clear hHeld
    go_simp
  try simp only [Act.put,sIB,sCZ,sCS]
  refine wpAnyH_take (i:=23) (oi:=⟨some 26,_,_,_,_,_⟩) (v:=undef) rfl (by kernel_rfl) (by kernel_rfl) (by kernel_rfl) (fun _ _ _ h=>h) (Or.inr ⟨by rfl,rfl⟩) (by assumption) ?_
  try simp only [Act.put,sIB,sCZ,sCS]
  refine wpAnyH_take (i:=24) (oi:=⟨some 27,_,_,_,_,_⟩) (v:=undef) rfl (by kernel_rfl) (by kernel_rfl) (by kernel_rfl) (fun _ _ _ h=>h) (Or.inr ⟨by rfl,rfl⟩) (by assumption) ?_
  try simp only [Act.put,sIB,sCZ,sCS]
  refine wpAnyH_take (i:=25) (oi:=⟨some 28,_,_,_,_,_⟩) (v:=undef) rfl (by kernel_rfl) (by kernel_rfl) (by kernel_rfl) (fun _ _ _ h=>h) (Or.inr ⟨by rfl,rfl⟩) (by assumption) ?_
  try simp only [Act.put,sIB,sCZ,sCS]
  refine wpAnyH_take (i:=26) (oi:=⟨some 29,_,_,_,_,_⟩) (v:=.bool false) rfl (by kernel_rfl) (by kernel_rfl) (by kernel_rfl) (fun _ _ _ h=>h) (Or.inl ⟨by rfl,fun w' hw'=>?_⟩) (by assumption) ?_
  · clear hHeld
    go_simp
  try simp only [Act.put,sIB,sCZ,sCS]
  refine wpAnyH_take (i:=27) (oi:=⟨some 2,_,_,_,_,_⟩) (v:=.bool false) rfl (by kernel_rfl) (by kernel_rfl) (by kernel_rfl) (fun _ _ _ h=>h) (Or.inl ⟨by rfl,fun w' hw'=>?_⟩) (by assumption) ?_
  · clear hHeld
    go_simp
  try simp only [Act.put,sIB,sCZ,sCS]
  have hfin:=hHeld.out
  refine wpAnyH_done (by kernel_rfl) ?_ _
  clear hHeld
  go_wp2_with fail
  go_ret
  refine⟨?_,HB1.out.trans (hfin.mono HB1.out.size)⟩
  rw [HGC.out]
  first | (simp [*];done) | (rw [decide_eq_false (show ¬ 0≤c.st by omega)];simp;done) | (rw [decide_eq_false (show ¬ c.st≤(S.length:Int) by omega)];simp;done)
 cases g
 case false =>
  go_enter Tryd.func15,Tryd.ntmps15
  go_upto_region 1 with (fail)
  rw [HW1.out,HRE.out]
  have hbd:Below W1.heap.size W1 W1.drew:=(Below.refl _ _).drew
  refine wp_region_held_drew (S:=fun w'=>Hid (Below W1.heap.size W1 w')) (by kernel_rfl) (hid hbd) (fun hHeld=>?_)
  clear hbd
  generalize W1.drew=Wd at *
  refine wpAnyH_take (i:=0) (oi:=⟨some 3,_,_,_,_,_⟩) (v:=.pointer (some ⟨B,0,none⟩)) rfl (by kernel_rfl) (by kernel_rfl) (by kernel_rfl) (fun _ _ _ h=>h) (Or.inl ⟨by rfl,fun w' hw'=>?_⟩) (by assumption) ?_
  · clear hHeld
    go_simp
  try simp only [Act.put,sIB,sCZ,sCS]
  refine wpAnyH_take (i:=1) (oi:=⟨some 4,_,_,_,_,_⟩) (v:=.int .u32 c.sg) rfl (by kernel_rfl) (by kernel_rfl) (by kernel_rfl) (fun _ _ _ h=>h) (Or.inl ⟨by rfl,fun w' hw'=>?_⟩) (by assumption) ?_
  · have hcx:=(HX.out.later hw'.out).at.1
    clear hHeld hw'
    go_simp
  try simp only [Act.put,sIB,sCZ,sCS]
  refine wpAnyH_take (i:=2) (oi:=⟨some 5,_,_,_,_,_⟩) (v:=.bool true) rfl (by kernel_rfl) (by kernel_rfl) (by kernel_rfl) (fun _ _ _ h=>h) (Or.inl ⟨by rfl,fun w' hw'=>?_⟩) (by assumption) ?_
  · clear hHeld
    go_simp
  try simp only [Act.put,sIB,sCZ,sCS]
  refine wpAnyH_take (i:=3) (oi:=⟨some 6,_,_,_,_,_⟩) (v:=.bool true) rfl (by kernel_rfl) (by kernel_rfl) (by kernel_rfl) (fun _ _ _ h=>h) (Or.inl ⟨by rfl,fun w' hw'=>?_⟩) (by assumption) ?_
  · clear hHeld
    go_simp
  try simp only [Act.put,sIB,sCZ,sCS]
  refine wpAnyH_take (i:=4) (oi:=⟨some 7,_,_,_,_,_⟩) (v:=.pointer (some ⟨B,1,none⟩)) rfl (by kernel_rfl) (by kernel_rfl) (by kernel_rfl) (fun _ _ _ h=>h) (Or.inl ⟨by rfl,fun w' hw'=>?_⟩) (by assumption) ?_
  · clear hHeld
    go_simp
  try simp only [Act.put,sIB,sCZ,sCS]
  refine wpAnyH_take (i:=5) (oi:=⟨some 8,_,_,_,_,_⟩) (v:=.agg (pcs c.p)) rfl (by kernel_rfl) (by kernel_rfl) (by kernel_rfl) (fun _ _ _ h=>h) (Or.inl ⟨by rfl,fun w' hw'=>z0p rfl (HX.out.later (Hid.out hw'))⟩) (by assumption) ?_
  try simp only [Act.put,sIB,sCZ,sCS]
  refine wpAnyH_ready (rs:=[6]) (by kernel_rfl) (by simp) (AllReadyH.cons rfl (fun K hK=>?_) (AllReadyH.nil))
  go_simp
  go_wp2_with fail
  refine (HG.out _ hHeld.out).mono ?_
  rintro e w2 ⟨rfl,hb2⟩
  have hSN:Hid (Below W1.heap.size W1 w2):=hid (hHeld.out.trans (hb2.mono hHeld.out.size))
  clear hb2
  go_wp2_with fail
  refine hK.out _ _ hSN (fun hHeld2=>?_)
  try simp only [Act.put,sIB,sCZ,sCS]
  clear hSN hK K hHeld
  have hHeld:=hHeld2
  clear hHeld2
  refine wpAnyH_take (i:=7) (oi:=⟨some 10,_,_,_,_,_⟩) (v:=.bool false) rfl (by kernel_rfl) (by kernel_rfl) (by kernel_rfl) (fun _ _ _ h=>h) (Or.inl ⟨by rfl,fun w' hw'=>?_⟩) (by assumption) ?_
  · clear hHeld
    go_simp
  try simp only [Act.put,sIB,sCZ,sCS]
  refine wpAnyH_take (i:=8) (oi:=⟨some 11,_,_,_,_,_⟩) (v:=.bool false) rfl (by kernel_rfl) (by kernel_rfl) (by kernel_rfl) (fun _ _ _ h=>h) (Or.inl ⟨by rfl,fun w' hw'=>?_⟩) (by assumption) ?_
  · clear hHeld
    go_simp
  try simp only [Act.put,sIB,sCZ,sCS]
  refine wpAnyH_take (i:=9) (oi:=⟨some 12,_,_,_,_,_⟩) (v:=undef) rfl (by kernel_rfl) (by kernel_rfl) (by kernel_rfl) (fun _ _ _ h=>h) (Or.inr ⟨by rfl,rfl⟩) (by assumption) ?_
  try simp only [Act.put,sIB,sCZ,sCS]
  refine wpAnyH_take (i:=10) (oi:=⟨some 13,_,_,_,_,_⟩) (v:=undef) rfl (by kernel_rfl) (by kernel_rfl) (by kernel_rfl) (fun _ _ _ h=>h) (Or.inr ⟨by rfl,rfl⟩) (by assumption) ?_
  try simp only [Act.put,sIB,sCZ,sCS]
  refine wpAnyH_take (i:=11) (oi:=⟨some 14,_,_,_,_,_⟩) (v:=undef) rfl (by kernel_rfl) (by kernel_rfl) (by kernel_rfl) (fun _ _ _ h=>h) (Or.inr ⟨by rfl,rfl⟩) (by assumption) ?_
  try simp only [Act.put,sIB,sCZ,sCS]
  refine wpAnyH_take (i:=12) (oi:=⟨some 15,_,_,_,_,_⟩) (v:=.bool false) rfl (by kernel_rfl) (by kernel_rfl) (by kernel_rfl) (fun _ _ _ h=>h) (Or.inl ⟨by rfl,fun w' hw'=>?_⟩) (by assumption) ?_
  · clear hHeld
    go_simp
  try simp only [Act.put,sIB,sCZ,sCS]
  refine wpAnyH_take (i:=13) (oi:=⟨some 16,_,_,_,_,_⟩) (v:=.bool false) rfl (by kernel_rfl) (by kernel_rfl) (by kernel_rfl) (fun _ _ _ h=>h) (Or.inl ⟨by rfl,fun w' hw'=>?_⟩) (by assumption) ?_
  · clear hHeld
    go_simp
  try simp only [Act.put,sIB,sCZ,sCS]
  refine wpAnyH_take (i:=14) (oi:=⟨some 17,_,_,_,_,_⟩) (v:=undef) rfl (by kernel_rfl) (by kernel_rfl) (by kernel_rfl) (fun _ _ _ h=>h) (Or.inr ⟨by rfl,rfl⟩) (by assumption) ?_
  try simp only [Act.put,sIB,sCZ,sCS]
  refine wpAnyH_take (i:=15) (oi:=⟨some 18,_,_,_,_,_⟩) (v:=undef) rfl (by kernel_rfl) (by kernel_rfl) (by kernel_rfl) (fun _ _ _ h=>h) (Or.inr ⟨by rfl,rfl⟩) (by assumption) ?_
  try simp only [Act.put,sIB,sCZ,sCS]
  refine wpAnyH_take (i:=16) (oi:=⟨some 19,_,_,_,_,_⟩) (v:=undef) rfl (by kernel_rfl) (by kernel_rfl) (by kernel_rfl) (fun _ _ _ h=>h) (Or.inr ⟨by rfl,rfl⟩) (by assumption) ?_
  try simp only [Act.put,sIB,sCZ,sCS]
  refine wpAnyH_take (i:=17) (oi:=⟨some 20,_,_,_,_,_⟩) (v:=undef) rfl (by kernel_rfl) (by kernel_rfl) (by kernel_rfl) (fun _ _ _ h=>h) (Or.inr ⟨by rfl,rfl⟩) (by assumption) ?_
  try simp only [Act.put,sIB,sCZ,sCS]
  refine wpAnyH_take (i:=18) (oi:=⟨some 21,_,_,_,_,_⟩) (v:=undef) rfl (by kernel_rfl) (by kernel_rfl) (by kernel_rfl) (fun _ _ _ h=>h) (Or.inr ⟨by rfl,rfl⟩) (by assumption) ?_
  try simp only [Act.put,sIB,sCZ,sCS]
  refine wpAnyH_take (i:=19) (oi:=⟨some 22,_,_,_,_,_⟩) (v:=undef) rfl (by kernel_rfl) (by kernel_rfl) (by kernel_rfl) (fun _ _ _ h=>h) (Or.inr ⟨by rfl,rfl⟩) (by assumption) ?_
  try simp only [Act.put,sIB,sCZ,sCS]
  refine wpAnyH_take (i:=20) (oi:=⟨some 23,_,_,_,_,_⟩) (v:=undef) rfl (by kernel_rfl) (by kernel_rfl) (by kernel_rfl) (fun _ _ _ h=>h) (Or.inr ⟨by rfl,rfl⟩) (by assumption) ?_
  try simp only [Act.put,sIB,sCZ,sCS]
  refine wpAnyH_take (i:=21) (oi:=⟨some 24,_,_,_,_,_⟩) (v:=.bool false) rfl (by kernel_rfl) (by kernel_rfl) (by kernel_rfl) (fun _ _ _ h=>h) (Or.inl ⟨by rfl,fun w' hw'=>?_⟩) (by assumption) ?_
  · clear hHeld
    go_simp
  try simp only [Act.put,sIB,sCZ,sCS]
  refine wpAnyH_take (i:=22) (oi:=⟨some 25,_,_,_,_,_⟩) (v:=.bool false) rfl (by kernel_rfl) (by kernel_rfl) (by kernel_rfl) (fun _ _ _ h=>h) (Or.inl ⟨by rfl,fun w' hw'=>?_⟩) (by assumption) ?_
  · clear hHeld
    go_simp
  try simp only [Act.put,sIB,sCZ,sCS]
  refine wpAnyH_take (i:=23) (oi:=⟨some 26,_,_,_,_,_⟩) (v:=undef) rfl (by kernel_rfl) (by kernel_rfl) (by kernel_rfl) (fun _ _ _ h=>h) (Or.inr ⟨by rfl,rfl⟩) (by assumption) ?_
  try simp only [Act.put,sIB,sCZ,sCS]
  refine wpAnyH_take (i:=24) (oi:=⟨some 27,_,_,_,_,_⟩) (v:=undef) rfl (by kernel_rfl) (by kernel_rfl) (by kernel_rfl) (fun _ _ _ h=>h) (Or.inr ⟨by rfl,rfl⟩) (by assumption) ?_
  try simp only [Act.put,sIB,sCZ,sCS]
  refine wpAnyH_take (i:=25) (oi:=⟨some 28,_,_,_,_,_⟩) (v:=undef) rfl (by kernel_rfl) (by kernel_rfl) (by kernel_rfl) (fun _ _ _ h=>h) (Or.inr ⟨by rfl,rfl⟩) (by assumption) ?_
  try simp only [Act.put,sIB,sCZ,sCS]
  refine wpAnyH_take (i:=26) (oi:=⟨some 29,_,_,_,_,_⟩) (v:=.bool false) rfl (by kernel_rfl) (by kernel_rfl) (by kernel_rfl) (fun _ _ _ h=>h) (Or.inl ⟨by rfl,fun w' hw'=>?_⟩) (by assumption) ?_
  · clear hHeld
    go_simp
  try simp only [Act.put,sIB,sCZ,sCS]
  refine wpAnyH_take (i:=27) (oi:=⟨some 2,_,_,_,_,_⟩) (v:=.bool false) rfl (by kernel_rfl) (by kernel_rfl) (by kernel_rfl) (fun _ _ _ h=>h) (Or.inl ⟨by rfl,fun w' hw'=>?_⟩) (by assumption) ?_
  · clear hHeld
    go_simp
  try simp only [Act.put,sIB,sCZ,sCS]
  have hfin:=hHeld.out
  refine wpAnyH_done (by kernel_rfl) ?_ _
  clear hHeld
  go_wp2_with fail
  go_ret
  refine⟨?_,HB1.out.trans (hfin.mono HB1.out.size)⟩
  rw [HGC.out]
  first | (simp [*];done) | (rw [decide_eq_false (show ¬ 0≤c.st by omega)];simp;done) | (rw [decide_eq_false (show ¬ c.st≤(S.length:Int) by omega)];simp;done)
 by_cases q3:0≤c.st
 case neg =>
  go_enter Tryd.func15,Tryd.ntmps15
  go_upto_region 1 with (fail)
  rw [HW1.out,HRE.out]
  have hbd:Below W1.heap.size W1 W1.drew:=(Below.refl _ _).drew
  refine wp_region_held_drew (S:=fun w'=>Hid (Below W1.heap.size W1 w')) (by kernel_rfl) (hid hbd) (fun hHeld=>?_)
  clear hbd
  generalize W1.drew=Wd at *
  refine wpAnyH_take (i:=0) (oi:=⟨some 3,_,_,_,_,_⟩) (v:=.pointer (some ⟨B,0,none⟩)) rfl (by kernel_rfl) (by kernel_rfl) (by kernel_rfl) (fun _ _ _ h=>h) (Or.inl ⟨by rfl,fun w' hw'=>?_⟩) (by assumption) ?_
  · clear hHeld
    go_simp
  try simp only [Act.put,sIB,sCZ,sCS]
  refine wpAnyH_take (i:=1) (oi:=⟨some 4,_,_,_,_,_⟩) (v:=.int .u32 c.sg) rfl (by kernel_rfl) (by kernel_rfl) (by kernel_rfl) (fun _ _ _ h=>h) (Or.inl ⟨by rfl,fun w' hw'=>?_⟩) (by assumption) ?_
  · have hcx:=(HX.out.later hw'.out).at.1
    clear hHeld hw'
    go_simp
  try simp only [Act.put,sIB,sCZ,sCS]
  refine wpAnyH_take (i:=2) (oi:=⟨some 5,_,_,_,_,_⟩) (v:=.bool true) rfl (by kernel_rfl) (by kernel_rfl) (by kernel_rfl) (fun _ _ _ h=>h) (Or.inl ⟨by rfl,fun w' hw'=>?_⟩) (by assumption) ?_
  · clear hHeld
    go_simp
  try simp only [Act.put,sIB,sCZ,sCS]
  refine wpAnyH_take (i:=3) (oi:=⟨some 6,_,_,_,_,_⟩) (v:=.bool true) rfl (by kernel_rfl) (by kernel_rfl) (by kernel_rfl) (fun _ _ _ h=>h) (Or.inl ⟨by rfl,fun w' hw'=>?_⟩) (by assumption) ?_
  · clear hHeld
    go_simp
  try simp only [Act.put,sIB,sCZ,sCS]
  refine wpAnyH_take (i:=4) (oi:=⟨some 7,_,_,_,_,_⟩) (v:=.pointer (some ⟨B,1,none⟩)) rfl (by kernel_rfl) (by kernel_rfl) (by kernel_rfl) (fun _ _ _ h=>h) (Or.inl ⟨by rfl,fun w' hw'=>?_⟩) (by assumption) ?_
  · clear hHeld
    go_simp
  try simp only [Act.put,sIB,sCZ,sCS]
  refine wpAnyH_take (i:=5) (oi:=⟨some 8,_,_,_,_,_⟩) (v:=.agg (pcs c.p)) rfl (by kernel_rfl) (by kernel_rfl) (by kernel_rfl) (fun _ _ _ h=>h) (Or.inl ⟨by rfl,fun w' hw'=>z0p rfl (HX.out.later (Hid.out hw'))⟩) (by assumption) ?_
  try simp only [Act.put,sIB,sCZ,sCS]
  refine wpAnyH_ready (rs:=[6]) (by kernel_rfl) (by simp) (AllReadyH.cons rfl (fun K hK=>?_) (AllReadyH.nil))
  go_simp
  go_wp2_with fail
  refine (HG.out _ hHeld.out).mono ?_
  rintro e w2 ⟨rfl,hb2⟩
  have hSN:Hid (Below W1.heap.size W1 w2):=hid (hHeld.out.trans (hb2.mono hHeld.out.size))
  clear hb2
  go_wp2_with fail
  refine hK.out _ _ hSN (fun hHeld2=>?_)
  try simp only [Act.put,sIB,sCZ,sCS]
  clear hSN hK K hHeld
  have hHeld:=hHeld2
  clear hHeld2
  refine wpAnyH_take (i:=7) (oi:=⟨some 10,_,_,_,_,_⟩) (v:=.bool true) rfl (by kernel_rfl) (by kernel_rfl) (by kernel_rfl) (fun _ _ _ h=>h) (Or.inl ⟨by rfl,fun w' hw'=>?_⟩) (by assumption) ?_
  · clear hHeld
    go_simp
  try simp only [Act.put,sIB,sCZ,sCS]
  refine wpAnyH_take (i:=8) (oi:=⟨some 11,_,_,_,_,_⟩) (v:=.bool true) rfl (by kernel_rfl) (by kernel_rfl) (by kernel_rfl) (fun _ _ _ h=>h) (Or.inl ⟨by rfl,fun w' hw'=>?_⟩) (by assumption) ?_
  · clear hHeld
    go_simp
  try simp only [Act.put,sIB,sCZ,sCS]
  refine wpAnyH_take (i:=9) (oi:=⟨some 12,_,_,_,_,_⟩) (v:=.pointer (some ⟨B,12,none⟩)) rfl (by kernel_rfl) (by kernel_rfl) (by kernel_rfl) (fun _ _ _ h=>h) (Or.inl ⟨by rfl,fun w' hw'=>?_⟩) (by assumption) ?_
  · clear hHeld
    go_simp
  try simp only [Act.put,sIB,sCZ,sCS]
  refine wpAnyH_take (i:=10) (oi:=⟨some 13,_,_,_,_,_⟩) (v:=.int .i64 c.st) rfl (by kernel_rfl) (by kernel_rfl) (by kernel_rfl) (fun _ _ _ h=>h) (Or.inl ⟨by rfl,fun w' hw'=>?_⟩) (by assumption) ?_
  · have hcx:=(HX.out.later hw'.out).at.2.2.1
    clear hHeld hw'
    go_simp
  try simp only [Act.put,sIB,sCZ,sCS]
  refine wpAnyH_take (i:=11) (oi:=⟨some 14,_,_,_,_,_⟩) (v:=.bool false) rfl (by kernel_rfl) (by kernel_rfl) (by kernel_rfl) (fun _ _ _ h=>h) (Or.inl ⟨by rfl,fun w' hw'=>?_⟩) (by assumption) ?_
  · clear hHeld
    go_simp
  try simp only [Act.put,sIB,sCZ,sCS]
  refine wpAnyH_take (i:=12) (oi:=⟨some 15,_,_,_,_,_⟩) (v:=.bool false) rfl (by kernel_rfl) (by kernel_rfl) (by kernel_rfl) (fun _ _ _ h=>h) (Or.inl ⟨by rfl,fun w' hw'=>?_⟩) (by assumption) ?_
  · clear hHeld
    go_simp
  try simp only [Act.put,sIB,sCZ,sCS]
  refine wpAnyH_take (i:=13) (oi:=⟨some 16,_,_,_,_,_⟩) (v:=.bool false) rfl (by kernel_rfl) (by kernel_rfl) (by kernel_rfl) (fun _ _ _ h=>h) (Or.inl ⟨by rfl,fun w' hw'=>?_⟩) (by assumption) ?_
  · clear hHeld
    go_simp
  try simp only [Act.put,sIB,sCZ,sCS]
  refine wpAnyH_take (i:=14) (oi:=⟨some 17,_,_,_,_,_⟩) (v:=undef) rfl (by kernel_rfl) (by kernel_rfl) (by kernel_rfl) (fun _ _ _ h=>h) (Or.inr ⟨by rfl,rfl⟩) (by assumption) ?_
  try simp only [Act.put,sIB,sCZ,sCS]
  refine wpAnyH_take (i:=15) (oi:=⟨some 18,_,_,_,_,_⟩) (v:=undef) rfl (by kernel_rfl) (by kernel_rfl) (by kernel_rfl) (fun _ _ _ h=>h) (Or.inr ⟨by rfl,rfl⟩) (by assumption) ?_
  try simp only [Act.put,sIB,sCZ,sCS]
  refine wpAnyH_take (i:=16) (oi:=⟨some 19,_,_,_,_,_⟩) (v:=undef) rfl (by kernel_rfl) (by kernel_rfl) (by kernel_rfl) (fun _ _ _ h=>h) (Or.inr ⟨by rfl,rfl⟩) (by assumption) ?_
  try simp only [Act.put,sIB,sCZ,sCS]
  refine wpAnyH_take (i:=17) (oi:=⟨some 20,_,_,_,_,_⟩) (v:=undef) rfl (by kernel_rfl) (by kernel_rfl) (by kernel_rfl) (fun _ _ _ h=>h) (Or.inr ⟨by rfl,rfl⟩) (by assumption) ?_
  try simp only [Act.put,sIB,sCZ,sCS]
  refine wpAnyH_take (i:=18) (oi:=⟨some 21,_,_,_,_,_⟩) (v:=undef) rfl (by kernel_rfl) (by kernel_rfl) (by kernel_rfl) (fun _ _ _ h=>h) (Or.inr ⟨by rfl,rfl⟩) (by assumption) ?_
  try simp only [Act.put,sIB,sCZ,sCS]
  refine wpAnyH_take (i:=19) (oi:=⟨some 22,_,_,_,_,_⟩) (v:=undef) rfl (by kernel_rfl) (by kernel_rfl) (by kernel_rfl) (fun _ _ _ h=>h) (Or.inr ⟨by rfl,rfl⟩) (by assumption) ?_
  try simp only [Act.put,sIB,sCZ,sCS]
  refine wpAnyH_take (i:=20) (oi:=⟨some 23,_,_,_,_,_⟩) (v:=undef) rfl (by kernel_rfl) (by kernel_rfl) (by kernel_rfl) (fun _ _ _ h=>h) (Or.inr ⟨by rfl,rfl⟩) (by assumption) ?_
  try simp only [Act.put,sIB,sCZ,sCS]
  refine wpAnyH_take (i:=21) (oi:=⟨some 24,_,_,_,_,_⟩) (v:=.bool false) rfl (by kernel_rfl) (by kernel_rfl) (by kernel_rfl) (fun _ _ _ h=>h) (Or.inl ⟨by rfl,fun w' hw'=>?_⟩) (by assumption) ?_
  · clear hHeld
    go_simp
  try simp only [Act.put,sIB,sCZ,sCS]
  refine wpAnyH_take (i:=22) (oi:=⟨some 25,_,_,_,_,_⟩) (v:=.bool false) rfl (by kernel_rfl) (by kernel_rfl) (by kernel_rfl) (fun _ _ _ h=>h) (Or.inl ⟨by rfl,fun w' hw'=>?_⟩) (by assumption) ?_
  · clear hHeld
    go_simp
  try simp only [Act.put,sIB,sCZ,sCS]
  refine wpAnyH_take (i:=23) (oi:=⟨some 26,_,_,_,_,_⟩) (v:=undef) rfl (by kernel_rfl) (by kernel_rfl) (by kernel_rfl) (fun _ _ _ h=>h) (Or.inr ⟨by rfl,rfl⟩) (by assumption) ?_
  try simp only [Act.put,sIB,sCZ,sCS]
  refine wpAnyH_take (i:=24) (oi:=⟨some 27,_,_,_,_,_⟩) (v:=undef) rfl (by kernel_rfl) (by kernel_rfl) (by kernel_rfl) (fun _ _ _ h=>h) (Or.inr ⟨by rfl,rfl⟩) (by assumption) ?_
  try simp only [Act.put,sIB,sCZ,sCS]
  refine wpAnyH_take (i:=25) (oi:=⟨some 28,_,_,_,_,_⟩) (v:=undef) rfl (by kernel_rfl) (by kernel_rfl) (by kernel_rfl) (fun _ _ _ h=>h) (Or.inr ⟨by rfl,rfl⟩) (by assumption) ?_
  try simp only [Act.put,sIB,sCZ,sCS]
  refine wpAnyH_take (i:=26) (oi:=⟨some 29,_,_,_,_,_⟩) (v:=.bool false) rfl (by kernel_rfl) (by kernel_rfl) (by kernel_rfl) (fun _ _ _ h=>h) (Or.inl ⟨by rfl,fun w' hw'=>?_⟩) (by assumption) ?_
  · clear hHeld
    go_simp
  try simp only [Act.put,sIB,sCZ,sCS]
  refine wpAnyH_take (i:=27) (oi:=⟨some 2,_,_,_,_,_⟩) (v:=.bool false) rfl (by kernel_rfl) (by kernel_rfl) (by kernel_rfl) (fun _ _ _ h=>h) (Or.inl ⟨by rfl,fun w' hw'=>?_⟩) (by assumption) ?_
  · clear hHeld
    go_simp
  try simp only [Act.put,sIB,sCZ,sCS]
  have hfin:=hHeld.out
  refine wpAnyH_done (by kernel_rfl) ?_ _
  clear hHeld
  go_wp2_with fail
  go_ret
  refine⟨?_,HB1.out.trans (hfin.mono HB1.out.size)⟩
  rw [HGC.out]
  first | (simp [*];done) | (rw [decide_eq_false (show ¬ 0≤c.st by omega)];simp;done) | (rw [decide_eq_false (show ¬ c.st≤(S.length:Int) by omega)];simp;done)
 by_cases q4:c.st≤(S.length:Int)
 case neg =>
  go_enter Tryd.func15,Tryd.ntmps15
  go_upto_region 1 with (fail)
  rw [HW1.out,HRE.out]
  have hbd:Below W1.heap.size W1 W1.drew:=(Below.refl _ _).drew
  refine wp_region_held_drew (S:=fun w'=>Hid (Below W1.heap.size W1 w')) (by kernel_rfl) (hid hbd) (fun hHeld=>?_)
  clear hbd
  generalize W1.drew=Wd at *
  refine wpAnyH_take (i:=0) (oi:=⟨some 3,_,_,_,_,_⟩) (v:=.pointer (some ⟨B,0,none⟩)) rfl (by kernel_rfl) (by kernel_rfl) (by kernel_rfl) (fun _ _ _ h=>h) (Or.inl ⟨by rfl,fun w' hw'=>?_⟩) (by assumption) ?_
  · clear hHeld
    go_simp
  try simp only [Act.put,sIB,sCZ,sCS]
  refine wpAnyH_take (i:=1) (oi:=⟨some 4,_,_,_,_,_⟩) (v:=.int .u32 c.sg) rfl (by kernel_rfl) (by kernel_rfl) (by kernel_rfl) (fun _ _ _ h=>h) (Or.inl ⟨by rfl,fun w' hw'=>?_⟩) (by assumption) ?_
  · have hcx:=(HX.out.later hw'.out).at.1
    clear hHeld hw'
    go_simp
  try simp only [Act.put,sIB,sCZ,sCS]
  refine wpAnyH_take (i:=2) (oi:=⟨some 5,_,_,_,_,_⟩) (v:=.bool true) rfl (by kernel_rfl) (by kernel_rfl) (by kernel_rfl) (fun _ _ _ h=>h) (Or.inl ⟨by rfl,fun w' hw'=>?_⟩) (by assumption) ?_
  · clear hHeld
    go_simp
  try simp only [Act.put,sIB,sCZ,sCS]
  refine wpAnyH_take (i:=3) (oi:=⟨some 6,_,_,_,_,_⟩) (v:=.bool true) rfl (by kernel_rfl) (by kernel_rfl) (by kernel_rfl) (fun _ _ _ h=>h) (Or.inl ⟨by rfl,fun w' hw'=>?_⟩) (by assumption) ?_
  · clear hHeld
    go_simp
  try simp only [Act.put,sIB,sCZ,sCS]
  refine wpAnyH_take (i:=4) (oi:=⟨some 7,_,_,_,_,_⟩) (v:=.pointer (some ⟨B,1,none⟩)) rfl (by kernel_rfl) (by kernel_rfl) (by kernel_rfl) (fun _ _ _ h=>h) (Or.inl ⟨by rfl,fun w' hw'=>?_⟩) (by assumption) ?_
  · clear hHeld
    go_simp
  try simp only [Act.put,sIB,sCZ,sCS]
  refine wpAnyH_take (i:=5) (oi:=⟨some 8,_,_,_,_,_⟩) (v:=.agg (pcs c.p)) rfl (by kernel_rfl) (by kernel_rfl) (by kernel_rfl) (fun _ _ _ h=>h) (Or.inl ⟨by rfl,fun w' hw'=>z0p rfl (HX.out.later (Hid.out hw'))⟩) (by assumption) ?_
  try simp only [Act.put,sIB,sCZ,sCS]
  refine wpAnyH_ready (rs:=[6]) (by kernel_rfl) (by simp) (AllReadyH.cons rfl (fun K hK=>?_) (AllReadyH.nil))
  go_simp
  go_wp2_with fail
  refine (HG.out _ hHeld.out).mono ?_
  rintro e w2 ⟨rfl,hb2⟩
  have hSN:Hid (Below W1.heap.size W1 w2):=hid (hHeld.out.trans (hb2.mono hHeld.out.size))
  clear hb2
  go_wp2_with fail
  refine hK.out _ _ hSN (fun hHeld2=>?_)
  try simp only [Act.put,sIB,sCZ,sCS]
  clear hSN hK K hHeld
  have hHeld:=hHeld2
  clear hHeld2
  refine wpAnyH_take (i:=7) (oi:=⟨some 10,_,_,_,_,_⟩) (v:=.bool true) rfl (by kernel_rfl) (by kernel_rfl) (by kernel_rfl) (fun _ _ _ h=>h) (Or.inl ⟨by rfl,fun w' hw'=>?_⟩) (by assumption) ?_
  · clear hHeld
    go_simp
  try simp only [Act.put,sIB,sCZ,sCS]
  refine wpAnyH_take (i:=8) (oi:=⟨some 11,_,_,_,_,_⟩) (v:=.bool true) rfl (by kernel_rfl) (by kernel_rfl) (by kernel_rfl) (fun _ _ _ h=>h) (Or.inl ⟨by rfl,fun w' hw'=>?_⟩) (by assumption) ?_
  · clear hHeld
    go_simp
  try simp only [Act.put,sIB,sCZ,sCS]
  refine wpAnyH_take (i:=9) (oi:=⟨some 12,_,_,_,_,_⟩) (v:=.pointer (some ⟨B,12,none⟩)) rfl (by kernel_rfl) (by kernel_rfl) (by kernel_rfl) (fun _ _ _ h=>h) (Or.inl ⟨by rfl,fun w' hw'=>?_⟩) (by assumption) ?_
  · clear hHeld
    go_simp
  try simp only [Act.put,sIB,sCZ,sCS]
  refine wpAnyH_take (i:=10) (oi:=⟨some 13,_,_,_,_,_⟩) (v:=.int .i64 c.st) rfl (by kernel_rfl) (by kernel_rfl) (by kernel_rfl) (fun _ _ _ h=>h) (Or.inl ⟨by rfl,fun w' hw'=>?_⟩) (by assumption) ?_
  · have hcx:=(HX.out.later hw'.out).at.2.2.1
    clear hHeld hw'
    go_simp
  try simp only [Act.put,sIB,sCZ,sCS]
  refine wpAnyH_take (i:=11) (oi:=⟨some 14,_,_,_,_,_⟩) (v:=.bool true) rfl (by kernel_rfl) (by kernel_rfl) (by kernel_rfl) (fun _ _ _ h=>h) (Or.inl ⟨by rfl,fun w' hw'=>?_⟩) (by assumption) ?_
  · clear hHeld
    go_simp
  try simp only [Act.put,sIB,sCZ,sCS]
  refine wpAnyH_take (i:=12) (oi:=⟨some 15,_,_,_,_,_⟩) (v:=.bool true) rfl (by kernel_rfl) (by kernel_rfl) (by kernel_rfl) (fun _ _ _ h=>h) (Or.inl ⟨by rfl,fun w' hw'=>?_⟩) (by assumption) ?_
  · clear hHeld
    go_simp
  try simp only [Act.put,sIB,sCZ,sCS]
  refine wpAnyH_take (i:=13) (oi:=⟨some 16,_,_,_,_,_⟩) (v:=.bool true) rfl (by kernel_rfl) (by kernel_rfl) (by kernel_rfl) (fun _ _ _ h=>h) (Or.inl ⟨by rfl,fun w' hw'=>?_⟩) (by assumption) ?_
  · clear hHeld
    go_simp
  try simp only [Act.put,sIB,sCZ,sCS]
  refine wpAnyH_take (i:=14) (oi:=⟨some 17,_,_,_,_,_⟩) (v:=.pointer (some ⟨B,12,none⟩)) rfl (by kernel_rfl) (by kernel_rfl) (by kernel_rfl) (fun _ _ _ h=>h) (Or.inl ⟨by rfl,fun w' hw'=>?_⟩) (by assumption) ?_
  · clear hHeld
    go_simp
  try simp only [Act.put,sIB,sCZ,sCS]
  refine wpAnyH_take (i:=15) (oi:=⟨some 18,_,_,_,_,_⟩) (v:=.int .i64 c.st) rfl (by kernel_rfl) (by kernel_rfl) (by kernel_rfl) (fun _ _ _ h=>h) (Or.inl ⟨by rfl,fun w' hw'=>?_⟩) (by assumption) ?_
  · have hcx:=(HX.out.later hw'.out).at.2.2.1
    clear hHeld hw'
    go_simp
  try simp only [Act.put,sIB,sCZ,sCS]
  refine wpAnyH_take (i:=16) (oi:=⟨some 19,_,_,_,_,_⟩) (v:=.pointer (some ⟨B,1,none⟩)) rfl (by kernel_rfl) (by kernel_rfl) (by kernel_rfl) (fun _ _ _ h=>h) (Or.inl ⟨by rfl,fun w' hw'=>?_⟩) (by assumption) ?_
  · clear hHeld
    go_simp
  try simp only [Act.put,sIB,sCZ,sCS]
  refine wpAnyH_take (i:=17) (oi:=⟨some 20,_,_,_,_,_⟩) (v:=.agg (pcs c.p)) rfl (by kernel_rfl) (by kernel_rfl) (by kernel_rfl) (fun _ _ _ h=>h) (Or.inl ⟨by rfl,fun w' hw'=>z0p rfl (HX.out.later (Hid.out hw'))⟩) (by assumption) ?_
  try simp only [Act.put,sIB,sCZ,sCS]
  refine wpAnyH_ready (rs:=[18]) (by kernel_rfl) (by simp) (AllReadyH.cons rfl (fun K hK=>?_) (AllReadyH.nil))
  go_simp
  go_wp2_with fail
  refine (HS.out _ hHeld.out).mono ?_
  rintro e w3 ⟨p3,c3,H3,rfl,hs3,hb3⟩
  have hSN:Hid (Below W1.heap.size W1 w3):=hid (hHeld.out.trans (hb3.mono hHeld.out.size))
  clear hb3 hs3
  go_wp2_with fail
  refine hK.out _ _ hSN (fun hHeld2=>?_)
  try simp only [Act.put,sIB,sCZ,sCS]
  clear hSN hK K hHeld
  have hHeld:=hHeld2
  clear hHeld2
  refine wpAnyH_take (i:=19) (oi:=⟨some 22,_,_,_,_,_⟩) (v:=.int .i64 (S.length:Int)) rfl (by kernel_rfl) (by kernel_rfl) (by kernel_rfl) (fun _ _ _ h=>h) (Or.inl ⟨by rfl,fun w' hw'=>?_⟩) (by assumption) ?_
  · clear hHeld
    go_simp
  try simp only [Act.put,sIB,sCZ,sCS]
  refine wpAnyH_take (i:=20) (oi:=⟨some 23,_,_,_,_,_⟩) (v:=.bool false) rfl (by kernel_rfl) (by kernel_rfl) (by kernel_rfl) (fun _ _ _ h=>h) (Or.inl ⟨by rfl,fun w' hw'=>?_⟩) (by assumption) ?_
  · clear hHeld
    go_simp
  try simp only [Act.put,sIB,sCZ,sCS]
  refine wpAnyH_take (i:=21) (oi:=⟨some 24,_,_,_,_,_⟩) (v:=.bool false) rfl (by kernel_rfl) (by kernel_rfl) (by kernel_rfl) (fun _ _ _ h=>h) (Or.inl ⟨by rfl,fun w' hw'=>?_⟩) (by assumption) ?_
  · clear hHeld
    go_simp
  try simp only [Act.put,sIB,sCZ,sCS]
  refine wpAnyH_take (i:=22) (oi:=⟨some 25,_,_,_,_,_⟩) (v:=.bool false) rfl (by kernel_rfl) (by kernel_rfl) (by kernel_rfl) (fun _ _ _ h=>h) (Or.inl ⟨by rfl,fun w' hw'=>?_⟩) (by assumption) ?_
  · clear hHeld
    go_simp
  try simp only [Act.put,sIB,sCZ,sCS]
  refine wpAnyH_take (i:=23) (oi:=⟨some 26,_,_,_,_,_⟩) (v:=undef) rfl (by kernel_rfl) (by kernel_rfl) (by kernel_rfl) (fun _ _ _ h=>h) (Or.inr ⟨by rfl,rfl⟩) (by assumption) ?_
  try simp only [Act.put,sIB,sCZ,sCS]
  refine wpAnyH_take (i:=24) (oi:=⟨some 27,_,_,_,_,_⟩) (v:=undef) rfl (by kernel_rfl) (by kernel_rfl) (by kernel_rfl) (fun _ _ _ h=>h) (Or.inr ⟨by rfl,rfl⟩) (by assumption) ?_
  try simp only [Act.put,sIB,sCZ,sCS]
  refine wpAnyH_take (i:=25) (oi:=⟨some 28,_,_,_,_,_⟩) (v:=undef) rfl (by kernel_rfl) (by kernel_rfl) (by kernel_rfl) (fun _ _ _ h=>h) (Or.inr ⟨by rfl,rfl⟩) (by assumption) ?_
  try simp only [Act.put,sIB,sCZ,sCS]
  refine wpAnyH_take (i:=26) (oi:=⟨some 29,_,_,_,_,_⟩) (v:=.bool false) rfl (by kernel_rfl) (by kernel_rfl) (by kernel_rfl) (fun _ _ _ h=>h) (Or.inl ⟨by rfl,fun w' hw'=>?_⟩) (by assumption) ?_
  · clear hHeld
    go_simp
  try simp only [Act.put,sIB,sCZ,sCS]
  refine wpAnyH_take (i:=27) (oi:=⟨some 2,_,_,_,_,_⟩) (v:=.bool false) rfl (by kernel_rfl) (by kernel_rfl) (by kernel_rfl) (fun _ _ _ h=>h) (Or.inl ⟨by rfl,fun w' hw'=>?_⟩) (by assumption) ?_
  · clear hHeld
    go_simp
  try simp only [Act.put,sIB,sCZ,sCS]
  have hfin:=hHeld.out
  refine wpAnyH_done (by kernel_rfl) ?_ _
  clear hHeld
  go_wp2_with fail
  go_ret
  refine⟨?_,HB1.out.trans (hfin.mono HB1.out.size)⟩
  rw [HGC.out]
  first | (simp [*];done) | (rw [decide_eq_false (show ¬ 0≤c.st by omega)];simp;done) | (rw [decide_eq_false (show ¬ c.st≤(S.length:Int) by omega)];simp;done)
 case pos =>
  go_enter Tryd.func15,Tryd.ntmps15
  go_upto_region 1 with (fail)
  rw [HW1.out,HRE.out]
  have hbd:Below W1.heap.size W1 W1.drew:=(Below.refl _ _).drew
  refine wp_region_held_drew (S:=fun w'=>Hid (Below W1.heap.size W1 w')) (by kernel_rfl) (hid hbd) (fun hHeld=>?_)
  clear hbd
  generalize W1.drew=Wd at *
  refine wpAnyH_take (i:=0) (oi:=⟨some 3,_,_,_,_,_⟩) (v:=.pointer (some ⟨B,0,none⟩)) rfl (by kernel_rfl) (by kernel_rfl) (by kernel_rfl) (fun _ _ _ h=>h) (Or.inl ⟨by rfl,fun w' hw'=>?_⟩) (by assumption) ?_
  · clear hHeld
    go_simp
  try simp only [Act.put,sIB,sCZ,sCS]
  refine wpAnyH_take (i:=1) (oi:=⟨some 4,_,_,_,_,_⟩) (v:=.int .u32 c.sg) rfl (by kernel_rfl) (by kernel_rfl) (by kernel_rfl) (fun _ _ _ h=>h) (Or.inl ⟨by rfl,fun w' hw'=>?_⟩) (by assumption) ?_
  · have hcx:=(HX.out.later hw'.out).at.1
    clear hHeld hw'
    go_simp
  try simp only [Act.put,sIB,sCZ,sCS]
  refine wpAnyH_take (i:=2) (oi:=⟨some 5,_,_,_,_,_⟩) (v:=.bool true) rfl (by kernel_rfl) (by kernel_rfl) (by kernel_rfl) (fun _ _ _ h=>h) (Or.inl ⟨by rfl,fun w' hw'=>?_⟩) (by assumption) ?_
  · clear hHeld
    go_simp
  try simp only [Act.put,sIB,sCZ,sCS]
  refine wpAnyH_take (i:=3) (oi:=⟨some 6,_,_,_,_,_⟩) (v:=.bool true) rfl (by kernel_rfl) (by kernel_rfl) (by kernel_rfl) (fun _ _ _ h=>h) (Or.inl ⟨by rfl,fun w' hw'=>?_⟩) (by assumption) ?_
  · clear hHeld
    go_simp
  try simp only [Act.put,sIB,sCZ,sCS]
  refine wpAnyH_take (i:=4) (oi:=⟨some 7,_,_,_,_,_⟩) (v:=.pointer (some ⟨B,1,none⟩)) rfl (by kernel_rfl) (by kernel_rfl) (by kernel_rfl) (fun _ _ _ h=>h) (Or.inl ⟨by rfl,fun w' hw'=>?_⟩) (by assumption) ?_
  · clear hHeld
    go_simp
  try simp only [Act.put,sIB,sCZ,sCS]
  refine wpAnyH_take (i:=5) (oi:=⟨some 8,_,_,_,_,_⟩) (v:=.agg (pcs c.p)) rfl (by kernel_rfl) (by kernel_rfl) (by kernel_rfl) (fun _ _ _ h=>h) (Or.inl ⟨by rfl,fun w' hw'=>z0p rfl (HX.out.later (Hid.out hw'))⟩) (by assumption) ?_
  try simp only [Act.put,sIB,sCZ,sCS]
  refine wpAnyH_ready (rs:=[6]) (by kernel_rfl) (by simp) (AllReadyH.cons rfl (fun K hK=>?_) (AllReadyH.nil))
  go_simp
  go_wp2_with fail
  refine (HG.out _ hHeld.out).mono ?_
  rintro e w2 ⟨rfl,hb2⟩
  have hSN:Hid (Below W1.heap.size W1 w2):=hid (hHeld.out.trans (hb2.mono hHeld.out.size))
  clear hb2
  go_wp2_with fail
  refine hK.out _ _ hSN (fun hHeld2=>?_)
  try simp only [Act.put,sIB,sCZ,sCS]
  clear hSN hK K hHeld
  have hHeld:=hHeld2
  clear hHeld2
  refine wpAnyH_take (i:=7) (oi:=⟨some 10,_,_,_,_,_⟩) (v:=.bool true) rfl (by kernel_rfl) (by kernel_rfl) (by kernel_rfl) (fun _ _ _ h=>h) (Or.inl ⟨by rfl,fun w' hw'=>?_⟩) (by assumption) ?_
  · clear hHeld
    go_simp
  try simp only [Act.put,sIB,sCZ,sCS]
  refine wpAnyH_take (i:=8) (oi:=⟨some 11,_,_,_,_,_⟩) (v:=.bool true) rfl (by kernel_rfl) (by kernel_rfl) (by kernel_rfl) (fun _ _ _ h=>h) (Or.inl ⟨by rfl,fun w' hw'=>?_⟩) (by assumption) ?_
  · clear hHeld
    go_simp
  try simp only [Act.put,sIB,sCZ,sCS]
  refine wpAnyH_take (i:=9) (oi:=⟨some 12,_,_,_,_,_⟩) (v:=.pointer (some ⟨B,12,none⟩)) rfl (by kernel_rfl) (by kernel_rfl) (by kernel_rfl) (fun _ _ _ h=>h) (Or.inl ⟨by rfl,fun w' hw'=>?_⟩) (by assumption) ?_
  · clear hHeld
    go_simp
  try simp only [Act.put,sIB,sCZ,sCS]
  refine wpAnyH_take (i:=10) (oi:=⟨some 13,_,_,_,_,_⟩) (v:=.int .i64 c.st) rfl (by kernel_rfl) (by kernel_rfl) (by kernel_rfl) (fun _ _ _ h=>h) (Or.inl ⟨by rfl,fun w' hw'=>?_⟩) (by assumption) ?_
  · have hcx:=(HX.out.later hw'.out).at.2.2.1
    clear hHeld hw'
    go_simp
  try simp only [Act.put,sIB,sCZ,sCS]
  refine wpAnyH_take (i:=11) (oi:=⟨some 14,_,_,_,_,_⟩) (v:=.bool true) rfl (by kernel_rfl) (by kernel_rfl) (by kernel_rfl) (fun _ _ _ h=>h) (Or.inl ⟨by rfl,fun w' hw'=>?_⟩) (by assumption) ?_
  · clear hHeld
    go_simp
  try simp only [Act.put,sIB,sCZ,sCS]
  refine wpAnyH_take (i:=12) (oi:=⟨some 15,_,_,_,_,_⟩) (v:=.bool true) rfl (by kernel_rfl) (by kernel_rfl) (by kernel_rfl) (fun _ _ _ h=>h) (Or.inl ⟨by rfl,fun w' hw'=>?_⟩) (by assumption) ?_
  · clear hHeld
    go_simp
  try simp only [Act.put,sIB,sCZ,sCS]
  refine wpAnyH_take (i:=13) (oi:=⟨some 16,_,_,_,_,_⟩) (v:=.bool true) rfl (by kernel_rfl) (by kernel_rfl) (by kernel_rfl) (fun _ _ _ h=>h) (Or.inl ⟨by rfl,fun w' hw'=>?_⟩) (by assumption) ?_
  · clear hHeld
    go_simp
  try simp only [Act.put,sIB,sCZ,sCS]
  refine wpAnyH_take (i:=14) (oi:=⟨some 17,_,_,_,_,_⟩) (v:=.pointer (some ⟨B,12,none⟩)) rfl (by kernel_rfl) (by kernel_rfl) (by kernel_rfl) (fun _ _ _ h=>h) (Or.inl ⟨by rfl,fun w' hw'=>?_⟩) (by assumption) ?_
  · clear hHeld
    go_simp
  try simp only [Act.put,sIB,sCZ,sCS]
  refine wpAnyH_take (i:=15) (oi:=⟨some 18,_,_,_,_,_⟩) (v:=.int .i64 c.st) rfl (by kernel_rfl) (by kernel_rfl) (by kernel_rfl) (fun _ _ _ h=>h) (Or.inl ⟨by rfl,fun w' hw'=>?_⟩) (by assumption) ?_
  · have hcx:=(HX.out.later hw'.out).at.2.2.1
    clear hHeld hw'
    go_simp
  try simp only [Act.put,sIB,sCZ,sCS]
  refine wpAnyH_take (i:=16) (oi:=⟨some 19,_,_,_,_,_⟩) (v:=.pointer (some ⟨B,1,none⟩)) rfl (by kernel_rfl) (by kernel_rfl) (by kernel_rfl) (fun _ _ _ h=>h) (Or.inl ⟨by rfl,fun w' hw'=>?_⟩) (by assumption) ?_
  · clear hHeld
    go_simp
  try simp only [Act.put,sIB,sCZ,sCS]
  refine wpAnyH_take (i:=17) (oi:=⟨some 20,_,_,_,_,_⟩) (v:=.agg (pcs c.p)) rfl (by kernel_rfl) (by kernel_rfl) (by kernel_rfl) (fun _ _ _ h=>h) (Or.inl ⟨by rfl,fun w' hw'=>z0p rfl (HX.out.later (Hid.out hw'))⟩) (by assumption) ?_
  try simp only [Act.put,sIB,sCZ,sCS]
  refine wpAnyH_ready (rs:=[18]) (by kernel_rfl) (by simp) (AllReadyH.cons rfl (fun K hK=>?_) (AllReadyH.nil))
  go_simp
  go_wp2_with fail
  refine (HS.out _ hHeld.out).mono ?_
  rintro e w3 ⟨p3,c3,H3,rfl,hs3,hb3⟩
  have hSN:Hid (Below W1.heap.size W1 w3):=hid (hHeld.out.trans (hb3.mono hHeld.out.size))
  clear hb3 hs3
  go_wp2_with fail
  refine hK.out _ _ hSN (fun hHeld2=>?_)
  try simp only [Act.put,sIB,sCZ,sCS]
  clear hSN hK K hHeld
  have hHeld:=hHeld2
  clear hHeld2
  refine wpAnyH_take (i:=19) (oi:=⟨some 22,_,_,_,_,_⟩) (v:=.int .i64 (S.length:Int)) rfl (by kernel_rfl) (by kernel_rfl) (by kernel_rfl) (fun _ _ _ h=>h) (Or.inl ⟨by rfl,fun w' hw'=>?_⟩) (by assumption) ?_
  · clear hHeld
    go_simp
  try simp only [Act.put,sIB,sCZ,sCS]
  refine wpAnyH_take (i:=20) (oi:=⟨some 23,_,_,_,_,_⟩) (v:=.bool true) rfl (by kernel_rfl) (by kernel_rfl) (by kernel_rfl) (fun _ _ _ h=>h) (Or.inl ⟨by rfl,fun w' hw'=>?_⟩) (by assumption) ?_
  · clear hHeld
    go_simp
  try simp only [Act.put,sIB,sCZ,sCS]
  refine wpAnyH_take (i:=21) (oi:=⟨some 24,_,_,_,_,_⟩) (v:=.bool true) rfl (by kernel_rfl) (by kernel_rfl) (by kernel_rfl) (fun _ _ _ h=>h) (Or.inl ⟨by rfl,fun w' hw'=>?_⟩) (by assumption) ?_
  · clear hHeld
    go_simp
  try simp only [Act.put,sIB,sCZ,sCS]
  refine wpAnyH_take (i:=22) (oi:=⟨some 25,_,_,_,_,_⟩) (v:=.bool true) rfl (by kernel_rfl) (by kernel_rfl) (by kernel_rfl) (fun _ _ _ h=>h) (Or.inl ⟨by rfl,fun w' hw'=>?_⟩) (by assumption) ?_
  · clear hHeld
    go_simp
  try simp only [Act.put,sIB,sCZ,sCS]
  refine wpAnyH_take (i:=23) (oi:=⟨some 26,_,_,_,_,_⟩) (v:=.pointer (some ⟨B,13,none⟩)) rfl (by kernel_rfl) (by kernel_rfl) (by kernel_rfl) (fun _ _ _ h=>h) (Or.inl ⟨by rfl,fun w' hw'=>?_⟩) (by assumption) ?_
  · clear hHeld
    go_simp
  try simp only [Act.put,sIB,sCZ,sCS]
  refine wpAnyH_take (i:=24) (oi:=⟨some 27,_,_,_,_,_⟩) (v:=.int .i64 c.tr) rfl (by kernel_rfl) (by kernel_rfl) (by kernel_rfl) (fun _ _ _ h=>h) (Or.inl ⟨by rfl,fun w' hw'=>?_⟩) (by assumption) ?_
  · have hcx:=(HX.out.later hw'.out).at.2.2.2.1
    clear hHeld hw'
    go_simp
  try simp only [Act.put,sIB,sCZ,sCS]
  refine wpAnyH_take (i:=25) (oi:=⟨some 28,_,_,_,_,_⟩) (v:=.bool (decide (0≤c.tr))) rfl (by kernel_rfl) (by kernel_rfl) (by kernel_rfl) (fun _ _ _ h=>h) (Or.inl ⟨by rfl,fun w' hw'=>?_⟩) (by assumption) ?_
  · clear hHeld
    go_simp
  try simp only [Act.put,sIB,sCZ,sCS]
  refine wpAnyH_take (i:=26) (oi:=⟨some 29,_,_,_,_,_⟩) (v:=.bool (decide (0≤c.tr))) rfl (by kernel_rfl) (by kernel_rfl) (by kernel_rfl) (fun _ _ _ h=>h) (Or.inl ⟨by rfl,fun w' hw'=>?_⟩) (by assumption) ?_
  · clear hHeld
    go_simp
  try simp only [Act.put,sIB,sCZ,sCS]
  refine wpAnyH_take (i:=27) (oi:=⟨some 2,_,_,_,_,_⟩) (v:=.bool (decide (0≤c.tr))) rfl (by kernel_rfl) (by kernel_rfl) (by kernel_rfl) (fun _ _ _ h=>h) (Or.inl ⟨by rfl,fun w' hw'=>?_⟩) (by assumption) ?_
  · clear hHeld
    go_simp
  try simp only [Act.put,sIB,sCZ,sCS]
  have hfin:=hHeld.out
  refine wpAnyH_done (by kernel_rfl) ?_ _
  clear hHeld
  go_wp2_with fail
  go_ret
  refine⟨?_,HB1.out.trans (hfin.mono HB1.out.size)⟩
  rw [HGC.out]
  first | (simp [*];done) | (rw [decide_eq_false (show ¬ 0≤c.st by omega)];simp;done) | (rw [decide_eq_false (show ¬ c.st≤(S.length:Int) by omega)];simp;done)
end Go.Proofs.YtnpjpelbcmgodaaDoor
