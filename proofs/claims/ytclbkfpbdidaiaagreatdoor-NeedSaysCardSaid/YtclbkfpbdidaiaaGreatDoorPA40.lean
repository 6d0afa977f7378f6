import Derived.Test.YtclbkfpbdidaiaaGreatDoorPA99
import Derived.Test.YtclbkfpbdidaiaaGreatDoorPA36
namespace Go.Proofs.YtclbkfpbdidaiaaGreatDoor
open Go.Lib (hid)
set_option maxHeartbeats 8000000
open Go.RowKit Go.ChangeShapes Go.WideShapes
set_option linter.unusedVariables false
set_option linter.unusedSimpArgs false
set_option maxRecDepth 10000
theorem held_load_rpr {a:Act} {w:World} {dst:Option Tmp} {x:Operand} {ty:TypeId} {pos:String} {after:Array Edge} {gd:Option (Nat × Bool)} {B:Nat} {r:Rv} (hx:a.eval x=.pointer (some ⟨B,10,none⟩)) (hC:RB w B r) :
 (execOp a.eval (Oper.mk dst (.load 26 x) ty pos after gd)).run Tryz.prog w=.ok (.value (.agg (pcs r))) w:=by
 unfold execOp
 simp only [hx,Instr.loadAt,Instr.sureAddr,Sem.run_bind,Sem.run_pure,Result.andThen_ok,z1y w B 10 42 26 (rcs r) (pcs r) (0,0) _ hC (rcs_prog r) Tryz.underlying26 rfl (by kernel_rfl)]
theorem cr_two0 (W:World) (r:Rv):∃ W1,(W.alloc (.cells (rcs r) 42)).alloc (.cells #[.int .u32 0,.int .u8 0,.int .u32 0,.int .u8 0,.slice none 0 0,.slice none 0 0,.slice none 0 0,.int .u8 0,.int .u8 0,.int .u8 0,.int .i64 0,.bool false,.int .i64 0,.int .i64 0,.int .u32 0] 34)=W1∧RB W1 W.heap.size r∧CB W1 (W.heap.size+1) cz∧W1.heap.size=W.heap.size+2∧Below W.heap.size W W1:=by
 have hb0:Below W.heap.size W (W.alloc (.cells (rcs r) 42)):=(Below.refl _ _).alloc (Nat.le_refl _) _
 have hs:(W.alloc (.cells (rcs r) 42)).heap.size=W.heap.size+1:=by simp only [World.alloc,Array.size_push]
 have hb1:Below (W.alloc (.cells (rcs r) 42)).heap.size (W.alloc (.cells (rcs r) 42)) ((W.alloc (.cells (rcs r) 42)).alloc (.cells #[.int .u32 0,.int .u8 0,.int .u32 0,.int .u8 0,.slice none 0 0,.slice none 0 0,.slice none 0 0,.int .u8 0,.int .u8 0,.int .u8 0,.int .i64 0,.bool false,.int .i64 0,.int .i64 0,.int .u32 0] 34)):=(Below.refl _ _).alloc (Nat.le_refl _) _
 refine⟨_,rfl,(RB.new W r).later hb1,?_,by simp only [World.alloc,Array.size_push],hb0.trans (hb1.mono hb0.size)⟩
 have h:=CB.new (W.alloc (.cells (rcs r) 42)) cz
 rw [hs] at h
 exact h
theorem cr_startN (r:Rv) (L:List Ln) (T:List Tk) (M:List Ln) (W:World) (hw:Words W) (hR:RvM W r L T M) (hrk:Rxok (r.x L T M)) (h2:r.ln≤400∧r.tn≤400∧r.wn≤400):Calls Tryz.prog 26 #[.agg (rcs r)] W (GivesCrN W (startX (r.x L T M)).1 (startX (r.x L T M)).2):=by
 obtain⟨W1,hW1,hy,hz,hsz,hb1⟩:=cr_two0 W r
 obtain⟨B,hB⟩:∃ B,W.heap.size=B:=⟨_,rfl⟩
 rw [hB] at hy hz hsz
 have HY:=hid hy
 have HZ:=hid hz
 have HW1:=hid hW1
 have HB1:=hid hb1
 have HRE:=hid hB
 have HSZ:=hid hsz
 have HR:=hid (rec_good r L T M W1 (hw.later hb1) (hR.later hb1) hrk h2)
 have HCP:=hid (copy_p2 r.pk r.od r.po r.lp r.ln r.lcp r.tp r.tn r.tcp r.wp r.wn r.wcp r.sk r.fr r.to r.q L T M)
 have HRM:=hid (hR.later hb1)
 have HLM:Hid (r.ln≤1000∧r.tn≤1000∧r.wn≤1000):=hid ⟨by omega,by omega,by omega⟩
 have HSX:Hid (startX (r.x L T M)=if r.k=1∧z1n (r.x L T M)=true then (⟨r.sg,r.pg L T M,false,0,0,0⟩,0) else (noC,1)):=hid rfl
 obtain⟨g,hg⟩:∃ g,z1n (r.x L T M)=g:=⟨_,rfl⟩
 rw [hg] at HR HSX
 generalize startX (r.x L T M)=A at *
 have y0:=hy.at.1
 clear hW1 hy hz hsz hb1 hB hw hR hrk h2 hg
 have HNO:Hid (∀ w',Below W.heap.size W w'→RvM (w'.setRow (B+1) (ccs cz)) cz.p [] [] []):=hid fun w' _=>rz_m _
 by_cases hk:r.k=1
 case neg =>
  have b1:(r.k != 1)=true:=bne_iff_ne.2 hk
  have HE:Hid (A=(noC,1)):=hid (by rw [HSX.out,if_neg (fun h=>hk h.1)])
  have HZF:=hid (HZ.out.set cz)
  clear HR HCP HRM HLM HSX hk
  go_enter Tryz.func26,Tryz.ntmps26
  go_upto_region 1 with (fail)
  rw [HW1.out,HRE.out]
  go_wp2_with ((with_reducible refine wpList_store_cr cz HZ.out ?_ ?_ ?_);rfl;rfl)
  (try simp only [Exit.inBlock,Exit.then])
  refine bodyPost_ret (v:=.tuple #[.agg (ccs cz),.int .i64 1]) ?_ rfl ?_
  · exact results_cr2 rfl _ _ (B+1) _ _ rfl rfl HZF.out
  · rw [HE.out]
    exact⟨cz,[],[],[],rfl,HNO.out _ HB1.out,cz_x,below_setRow HB1.out (by have:=HRE.out;omega) _,(fun a ha=>by cases ha),(fun a ha=>by cases ha),(fun a ha=>by cases ha)⟩
 case pos =>
 rw [hk] at y0
 cases g with
 | false =>
  have HE:Hid (A=(noC,1)):=hid (by rw [HSX.out,if_neg (fun h=>by cases h.2)])
  clear HCP HRM HLM HSX hk
  go_enter Tryz.func26,Tryz.ntmps26
  go_upto_region 1 with (fail)
  rw [HW1.out,HRE.out]
  go_wp2_with ((with_reducible refine z0d HY.out ?_ ?_ ?_);rfl;rfl)
  refine HR.out.mono ?_
  rintro e w2 ⟨rfl,h2⟩
  have HZ2:=hid (HZ.out.later h2)
  have HB2:=hid (HB1.out.trans (h2.mono HB1.out.size))
  have HZF:=hid (HZ2.out.set cz)
  clear h2 HR y0
  go_wp2_with ((with_reducible refine wpList_store_cr cz HZ2.out ?_ ?_ ?_);rfl;rfl)
  (try simp only [Exit.inBlock,Exit.then])
  refine bodyPost_ret (v:=.tuple #[.agg (ccs cz),.int .i64 1]) ?_ rfl ?_
  · exact results_cr2 rfl _ _ (B+1) _ _ rfl rfl HZF.out
  · rw [HE.out]
    exact⟨cz,[],[],[],rfl,HNO.out _ HB2.out,cz_x,below_setRow HB2.out (by have:=HRE.out;omega) _,(fun a ha=>by cases ha),(fun a ha=>by cases ha),(fun a ha=>by cases ha)⟩
 | true =>
  have HE:Hid (A=(⟨r.sg,r.pg L T M,false,0,0,0⟩,0)):=hid (by rw [HSX.out,if_pos ⟨hk,rfl⟩])
  clear HNO HSX hk
  go_enter Tryz.func26,Tryz.ntmps26
  go_upto_region 1 with (fail)
  rw [HW1.out,HRE.out]
  go_wp2_with ((with_reducible refine z0d HY.out ?_ ?_ ?_);rfl;rfl)
  refine HR.out.mono ?_
  rintro e w2 ⟨rfl,h2⟩
  have HY2:=hid (HY.out.later h2)
  have HZ2:=hid (HZ.out.later h2)
  have HB2:=hid (HB1.out.trans (h2.mono HB1.out.size))
  have HM2:=hid (HRM.out.later h2)
  have HS2:=hid h2.size
  clear h2 HR y0 HY HZ HRM
  go_upto_region 3 with (fail)
  have hbd:RB w2.drew B r:=HY2.out
  have HZ3:Hid (CB w2.drew (B+1) cz):=hid HZ2.out
  have HB3:Hid (Below W.heap.size W w2.drew):=hid HB2.out.drew
  have HM3:Hid (RvM w2.drew r L T M):=hid (HM2.out.later (Below.refl _ _).drew)
  have HS3:Hid (B+2≤w2.drew.heap.size):=hid (by have h1:=HSZ.out;have h2:=HS2.out;show B+2≤w2.heap.size;omega)
  refine wp_region_held_drew (S:=fun w'=>Hid (RB w' B r)) (by kernel_rfl) (hid hbd) (fun hHeld=>?_)
  clear hbd HY2 HZ2 HB2 HM2 HS2
  generalize w2.drew=Wd at *
  refine wpAnyH_take (i:=0) (oi:=⟨some 13,_,_,_,_,_⟩) (v:=.pointer (some ⟨B,1,none⟩)) rfl (by kernel_rfl) (by kernel_rfl) (by kernel_rfl) (fun _ _ _ h=>h) (Or.inl ⟨by rfl,fun w' hw'=>?_⟩) (by assumption) ?_
  · clear hHeld
    go_simp
  try simp only [Act.put,sIB,sCZ,sCS]
  refine wpAnyH_take (i:=1) (oi:=⟨some 14,_,_,_,_,_⟩) (v:=.int .u32 r.sg) rfl (by kernel_rfl) (by kernel_rfl) (by kernel_rfl) (fun _ _ _ h=>h) (Or.inl ⟨by rfl,fun w' hw'=>?_⟩) (by assumption) ?_
  · have hcx:=hw'.out.at.2.1
    clear hHeld hw'
    go_simp
  try simp only [Act.put,sIB,sCZ,sCS]
  refine wpAnyH_take (i:=2) (oi:=⟨some 15,_,_,_,_,_⟩) (v:=.pointer (some ⟨B,10,none⟩)) rfl (by kernel_rfl) (by kernel_rfl) (by kernel_rfl) (fun _ _ _ h=>h) (Or.inl ⟨by rfl,fun w' hw'=>?_⟩) (by assumption) ?_
  · clear hHeld
    go_simp
  try simp only [Act.put,sIB,sCZ,sCS]
  refine wpAnyH_take (i:=3) (oi:=⟨some 16,_,_,_,_,_⟩) (v:=.agg (pcs r)) rfl (by kernel_rfl) (by kernel_rfl) (by kernel_rfl) (fun _ _ _ h=>h) (Or.inl ⟨by rfl,fun w' hw'=>held_load_rpr rfl (Hid.out hw')⟩) (by assumption) ?_
  try simp only [Act.put,sIB,sCZ,sCS]
  refine wpAnyH_ready (rs:=[4]) (by kernel_rfl) (by simp) (AllReadyH.cons rfl (fun K hK=>?_) (AllReadyH.nil))
  go_simp
  go_wp2_with fail
  refine (HCP.out Wd HM3.out HLM.out).mono ?_
  rintro e w4 ⟨lp,lc,tp,tc,wp,wc,rfl,hpm,_,ht4,hb4,hl4,ho4⟩
  have HFA:Hid ((∀ a,lp=some a→a.block≠B+1)∧(∀ a,tp=some a→a.block≠B+1)∧(∀ a,wp=some a→a.block≠B+1)):=hid (by
   have h:=HS3.out
   exact⟨fun a ha=>by have:=hl4 a ha;omega,fun a ha=>by have:=ht4 a ha;omega,fun a ha=>by have:=ho4 a ha;omega⟩)
  have HFN:Hid ((∀ a,lp=some a→W.heap.size≤a.block)∧(∀ a,tp=some a→W.heap.size≤a.block)∧(∀ a,wp=some a→W.heap.size≤a.block)):=hid (by
   have h:=HS3.out
   have h2:=HRE.out
   exact⟨fun a ha=>by have:=hl4 a ha;omega,fun a ha=>by have:=ht4 a ha;omega,fun a ha=>by have:=ho4 a ha;omega⟩)
  have hSN:Hid (RB w4 B r):=hid (hHeld.out.later hb4)
  have HZ4:=hid (HZ3.out.later hb4)
  have HB4:=hid (HB3.out.trans (hb4.mono HB3.out.size))
  have HM4:=hid hpm
  clear hpm ht4 hb4 hl4 ho4 HZ3 HB3 HM3 HS3
  go_wp2_with fail
  refine hK.out _ _ hSN (fun hHeld2=>?_)
  try simp only [Act.put,sIB,sCZ,sCS]
  clear hSN hK K hHeld
  have hHeld:=hHeld2
  clear hHeld2
  obtain⟨cc,hcc⟩:∃ cc:Cv,cc=⟨r.sg,prV ⟨r.pk,r.od,r.po,L,T,M,r.sk,r.fr,r.to,r.q⟩ lp lc tp tc wp wc,false,0,0,0⟩:=⟨_,rfl⟩
  have hcs:(#[.int .u32 r.sg,.int .u8 r.pk,.int .u32 r.od,.int .u8 r.po,.slice lp L.length lc,.slice tp T.length tc,.slice wp M.length wc,.int .u8 r.sk,.int .u8 r.fr,.int .u8 r.to,.int .i64 r.q,.bool false,.int .i64 0,.int .i64 0,.int .u32 0]:Array Value)=ccs cc:=by rw [hcc];rfl
  have HCS:=hid hcs
  have HXX:Hid (cc.x L T M=⟨r.sg,r.pg L T M,false,0,0,0⟩):=hid (by rw [hcc];rfl)
  have HPM:Hid (RvM (w4.setRow (B+1) (ccs cc)) cc.p L T M):=hid (pgm_set (R:=B+1) (by rw [hcc];exact HM4.out) (ccs cc) (by rw [hcc];exact HFA.out.1) (by rw [hcc];exact HFA.out.2.1) (by rw [hcc];exact HFA.out.2.2))
  have HNP:Hid (NewP W cc.p):=hid (by rw [hcc];exact HFN.out)
  clear hcc hcs
  refine wpAnyH_take (i:=5) (oi:=⟨some 18,_,_,_,_,_⟩) (v:=.agg #[.int .u32 r.sg,.int .u8 r.pk,.int .u32 r.od,.int .u8 r.po,.slice lp L.length lc,.slice tp T.length tc,.slice wp M.length wc,.int .u8 r.sk,.int .u8 r.fr,.int .u8 r.to,.int .i64 r.q,.bool false,.int .i64 0,.int .i64 0,.int .u32 0]) rfl (by kernel_rfl) (by kernel_rfl) (by kernel_rfl) (fun _ _ _ h=>h) (Or.inl ⟨by rfl,fun w' hw'=>?_⟩) (by assumption) ?_
  · clear hHeld
    go_simp
  try simp only [Act.put,sIB,sCZ,sCS]
  rw [HCS.out]
  refine wpAnyH_ready (rs:=[6]) (by kernel_rfl) (by simp) (AllReadyH.cons rfl (fun K hK=>?_) (AllReadyH.nil))
  rw [if_pos (by rfl)]
  refine wp_store_row 34 _ _ rfl (B+1) (ccs cc) rfl rfl 34 _ HZ4.out (by kernel_rfl) rfl (ccs_one cc) ?_
  have HZF:Hid (CB (w4.setRow (B+1) (ccs cc)) (B+1) cc):=hid (HZ4.out.set cc)
  have hSN:Hid (RB (w4.setRow (B+1) (ccs cc)) B r):=hid (hHeld.out.chg (S:=fun k=>k=B+1) ⟨rfl,rfl,rfl,by simp [World.setRow],fun k _ hn=>setRow_other _ _ _ _ hn⟩ (by omega))
  have HB5:Hid (Below W.heap.size W (w4.setRow (B+1) (ccs cc))):=hid (below_setRow HB4.out (by have:=HRE.out;omega) _)
  clear HZ4 HB4 HM4
  generalize w4.setRow (B+1) (ccs cc)=w5 at *
  refine hK.out _ _ hSN (fun hHeld2=>?_)
  try simp only [Act.put,sIB,sCZ,sCS]
  clear hSN hK K hHeld
  have hHeld:=hHeld2
  clear hHeld2
  refine wpAnyH_take (i:=7) (oi:=⟨some 3,_,_,_,_,_⟩) (v:=.int .i64 0) rfl (by kernel_rfl) (by kernel_rfl) (by kernel_rfl) (fun _ _ _ h=>h) (Or.inl ⟨by rfl,fun w' hw'=>?_⟩) (by assumption) ?_
  · clear hHeld
    go_simp
  try simp only [Act.put,sIB,sCZ,sCS]
  refine wpAnyH_done (by kernel_rfl) ?_ _
  clear hHeld
  go_wp2_with fail
  (try simp only [Exit.inBlock,Exit.then])
  refine bodyPost_ret (v:=.tuple #[.agg (ccs cc),.int .i64 0]) ?_ rfl ?_
  · exact results_cr2 rfl _ _ (B+1) _ _ rfl rfl HZF.out
  · rw [HE.out]
    exact⟨cc,L,T,M,rfl,HPM.out,HXX.out,HB5.out,HNP.out⟩
theorem rcost_any (k:Int) (h0:0≤k) (W:World):Calls Tryz.prog 46 #[.int .u8 k] W fun e w'=>e=.returned (.int .i64 (costI k))∧w'=W:=by
 by_cases h9:2≤k∧k≤9
 · rcases (by omega:k=2∨k=3∨k=4∨k=5∨k=6∨k=7∨k=8∨k=9) with rfl | rfl | rfl | rfl | rfl | rfl | rfl | rfl
   all_goals
    go_enter Tryz.func46,Tryz.ntmps46
    go_wp2_with fail
    go_ret
    exact⟨rfl,rfl⟩
 · have e2:(k==2)=false:=by simp;omega
   have e3:(k==3)=false:=by simp;omega
   have e4:(k==4)=false:=by simp;omega
   have e5:(k==5)=false:=by simp;omega
   have e6:(k==6)=false:=by simp;omega
   have e7:(k==7)=false:=by simp;omega
   have e8:(k==8)=false:=by simp;omega
   have e9:(k==9)=false:=by simp;omega
   have HC:Hid (costI k=0):=hid (if_neg fun h=>by have:=kOk_cases h.1;omega)
   clear h9 h0
   go_enter Tryz.func46,Tryz.ntmps46
   go_wp2_with fail
   go_ret
   exact⟨by rw [HC.out];rfl,rfl⟩
theorem nq_load_cr {W:World} {K:Act→Prop} {a:Act} {dst:Option Tmp} {x:Operand} {ty:TypeId} {pos:String} {after:Array Edge} {gd:Option (Nat × Bool)} {B:Nat} {c:Cv} (hC:CB W B c) (hx:a.eval x=.pointer (some ⟨B,0,none⟩))
 (hk:K (a.put dst (.agg (ccs c)))):(Oper.mk dst (.load 34 x) ty pos after gd).quiet Tryz.prog a (fun w'=>∃ p:After W,w'=p.w) K:=by
 refine⟨.agg (ccs c),fun w hw=>?_,hk⟩
 obtain⟨p,rfl⟩:=hw
 unfold Oper.quietAt execOp
 simp only [hx,Instr.loadAt,Instr.sureAddr,Sem.run_bind,Sem.run_pure,Result.andThen_ok,run_loadVar_row p.w B 34 34 (ccs c) (0,0) _ (hC.later p.h) Tryz.underlying34 rfl (by kernel_rfl)]
 exact⟨rfl,rfl⟩
theorem nq_load_cp {W:World} {K:Act→Prop} {a:Act} {dst:Option Tmp} {x:Operand} {ty:TypeId} {pos:String} {after:Array Edge} {gd:Option (Nat × Bool)} {B:Nat} {c:Cv} (hC:CB W B c) (hx:a.eval x=.pointer (some ⟨B,1,none⟩))
 (hk:K (a.put dst (.agg (pcs c.p)))):(Oper.mk dst (.load 26 x) ty pos after gd).quiet Tryz.prog a (fun w'=>∃ p:After W,w'=p.w) K:=by
 refine⟨.agg (pcs c.p),fun w hw=>?_,hk⟩
 obtain⟨p,rfl⟩:=hw
 unfold Oper.quietAt execOp
 simp only [hx,Instr.loadAt,Instr.sureAddr,Sem.run_bind,Sem.run_pure,Result.andThen_ok,z1y p.w B 1 34 26 (ccs c) (pcs c.p) (0,0) _ (hC.later p.h) (ccs_prog c) Tryz.underlying26 rfl (by kernel_rfl)]
 exact⟨rfl,rfl⟩
theorem nq_load_rc {W:World} {K:Act→Prop} {a:Act} {dst:Option Tmp} {x:Operand} {ty:TypeId} {pos:String} {after:Array Edge} {gd:Option (Nat × Bool)} {B:Nat} {r:Rv} (hC:RB W B r) (hx:a.eval x=.pointer (some ⟨B,0,none⟩))
 (hk:K (a.put dst (.agg (rcs r)))):(Oper.mk dst (.load 42 x) ty pos after gd).quiet Tryz.prog a (fun w'=>∃ p:After W,w'=p.w) K:=by
 refine⟨.agg (rcs r),fun w hw=>?_,hk⟩
 obtain⟨p,rfl⟩:=hw
 unfold Oper.quietAt execOp
 simp only [hx,Instr.loadAt,Instr.sureAddr,Sem.run_bind,Sem.run_pure,Result.andThen_ok,run_loadVar_row p.w B 42 42 (rcs r) (0,0) _ (hC.later p.h) Tryz.underlying42 rfl (by kernel_rfl)]
 exact⟨rfl,rfl⟩
end Go.Proofs.YtclbkfpbdidaiaaGreatDoor
