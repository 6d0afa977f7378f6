import Derived.Test.YtclbkfpbdidaiaaGreatDoorPC99
import Derived.Test.YtclbkfpbdidaiaaGreatDoorPC26
namespace Go.Proofs.YtclbkfpbdidaiaaGreatDoor
open Go.Lib (hid)
set_option maxHeartbeats 16000000
open Go.RowKit Go.ChangeShapes Go.WideShapes
set_option linter.unusedVariables false
set_option linter.unusedSimpArgs false
set_option maxRecDepth 10000
theorem q1i (c:Cv) (L:List Ln) (T:List Tk) (M:List Ln) (W:World) (hw:Words W) (hP:CvM W c L T M) (hok:Crok (c.x L T M)) (h1:c.p.ln≤400∧c.p.tn≤400∧c.p.wn≤400) (hg:z3c (c.x L T M)=true):Calls Tryz.prog 65 #[.agg (ccs c)] W fun e w'=>e=.returned (.tuple #[.int .i64 (z1u (c.x L T M)).1,.bool (z1u (c.x L T M)).2])∧Below W.heap.size W w':=by
 obtain⟨W1,hW1,hx,hb1⟩:∃ W1,W.alloc (.cells (ccs c) 34)=W1∧CB W1 W.heap.size c∧Below W.heap.size W W1:=⟨_,rfl,CB.new W c,(Below.refl _ _).alloc (Nat.le_refl _) _⟩
 obtain⟨B,hB⟩:∃ B,W.heap.size=B:=⟨_,rfl⟩
 rw [hB] at hx
 have HX:=hid hx
 have HW1:=hid hW1
 have HB1:=hid hb1
 have HRE:=hid hB
 have hl:=z5s hg hok.P
 obtain⟨_,_,g3,g4,_⟩:=z2x hg
 have g3':0≤c.st:=g3
 have g4':c.st≤lenC (c.x L T M):=g4
 have hwr:IntKind.i64.wrap (c.st-1)=c.st-1:=IntWalk.i64_in _ (by omega)
 have HS:Hid (∀ w',Below W1.heap.size W1 w'→Calls Tryz.prog 48 #[.agg (pcs c.p)] w' (GivesS w' (z0k (c.p.pg L T M)))):=hid fun w' hb=>q0y c.p.pk c.p.od c.p.po c.p.lp c.p.ln c.p.lcp c.p.tp c.p.tn c.p.tcp c.p.wp c.p.wn c.p.wcp c.p.sk c.p.fr c.p.to c.p.q L T M w' (hw.later (hb1.trans (hb.mono hb1.size))) ((hP.later hb1).later hb) hok.P h1
 have HT:Hid (z1u (c.x L T M)=if c.bk then (c.st-1,decide (0<c.st)) else (c.st,decide (c.st<((z0k (c.p.pg L T M)).length:Int)))):=hid rfl
 obtain⟨S,hS⟩:∃ S,z0k (c.p.pg L T M)=S:=⟨_,rfl⟩
 rw [hS] at HS HT
 have a11:=hx.at.2.1
 clear hW1 hx hb1 hB hS hw hP hok h1 hg g3 g4 g3' g4' hl
 cases hbk:c.bk
 · rw [hbk] at a11 HT
   have HT2:Hid (z1u (c.x L T M)=(c.st,decide (c.st<(S.length:Int)))):=hid HT.out
   clear HT
   go_enter Tryz.func65,Tryz.ntmps65
   go_upto_region 1 with (fail)
   rw [HW1.out,HRE.out]
   go_upto_region 3 with (fail)
   have hbd:Below W1.heap.size W1 W1.drew:=(Below.refl _ _).drew
   refine wp_region_held_drew (S:=fun w'=>Hid (Below W1.heap.size W1 w')) (by kernel_rfl) (hid hbd) (fun hHeld=>?_)
   clear hbd
   generalize W1.drew=Wd at *
   refine wpAnyH_take (i:=0) (oi:=⟨some 12,_,_,_,_,_⟩) (v:=.pointer (some ⟨B,12,none⟩)) rfl (by kernel_rfl) (by kernel_rfl) (by kernel_rfl) (fun _ _ _ h=>h) (Or.inl ⟨by rfl,fun w' hw'=>?_⟩) (by assumption) ?_
   · clear hHeld
     go_simp
   try simp only [Act.put,sIB,sCZ,sCS]
   refine wpAnyH_take (i:=1) (oi:=⟨some 13,_,_,_,_,_⟩) (v:=.int .i64 c.st) rfl (by kernel_rfl) (by kernel_rfl) (by kernel_rfl) (fun _ _ _ h=>h) (Or.inl ⟨by rfl,fun w' hw'=>?_⟩) (by assumption) ?_
   · have hcx:=(HX.out.later hw'.out).at.2.2.1
     clear hHeld hw'
     go_simp
   try simp only [Act.put,sIB,sCZ,sCS]
   refine wpAnyH_take (i:=2) (oi:=⟨some 14,_,_,_,_,_⟩) (v:=.pointer (some ⟨B,12,none⟩)) rfl (by kernel_rfl) (by kernel_rfl) (by kernel_rfl) (fun _ _ _ h=>h) (Or.inl ⟨by rfl,fun w' hw'=>?_⟩) (by assumption) ?_
   · clear hHeld
     go_simp
   try simp only [Act.put,sIB,sCZ,sCS]
   refine wpAnyH_take (i:=3) (oi:=⟨some 15,_,_,_,_,_⟩) (v:=.int .i64 c.st) rfl (by kernel_rfl) (by kernel_rfl) (by kernel_rfl) (fun _ _ _ h=>h) (Or.inl ⟨by rfl,fun w' hw'=>?_⟩) (by assumption) ?_
   · have hcx:=(HX.out.later hw'.out).at.2.2.1
     clear hHeld hw'
     go_simp
   try simp only [Act.put,sIB,sCZ,sCS]
   refine wpAnyH_take (i:=4) (oi:=⟨some 16,_,_,_,_,_⟩) (v:=.pointer (some ⟨B,1,none⟩)) rfl (by kernel_rfl) (by kernel_rfl) (by kernel_rfl) (fun _ _ _ h=>h) (Or.inl ⟨by rfl,fun w' hw'=>?_⟩) (by assumption) ?_
   · clear hHeld
     go_simp
   try simp only [Act.put,sIB,sCZ,sCS]
   refine wpAnyH_take (i:=5) (oi:=⟨some 17,_,_,_,_,_⟩) (v:=.agg (pcs c.p)) rfl (by kernel_rfl) (by kernel_rfl) (by kernel_rfl) (fun _ _ _ h=>h) (Or.inl ⟨by rfl,fun w' hw'=>z2h rfl (HX.out.later (Hid.out hw'))⟩) (by assumption) ?_
   try simp only [Act.put,sIB,sCZ,sCS]
   refine wpAnyH_ready (rs:=[6]) (by kernel_rfl) (by simp) (AllReadyH.cons rfl (fun K hK=>?_) (AllReadyH.nil))
   go_simp
   go_wp2_with fail
   refine (HS.out _ hHeld.out).mono ?_
   rintro e w3 ⟨p3,c3,H3,rfl,hs3,hb3⟩
   have hSN:Hid (Below W1.heap.size W1 w3):=hid (hHeld.out.trans (hb3.mono hHeld.out.size))
   clear hb3 hs3
   go_wp2_with fail
   refine hK.out _ _ hSN (fun hHeld2=>?_)
   try simp only [Act.put,sIB,sCZ,sCS]
   clear hSN hK K hHeld
   have hHeld:=hHeld2
   clear hHeld2
   refine wpAnyH_take (i:=7) (oi:=⟨some 19,_,_,_,_,_⟩) (v:=.int .i64 (S.length:Int)) rfl (by kernel_rfl) (by kernel_rfl) (by kernel_rfl) (fun _ _ _ h=>h) (Or.inl ⟨by rfl,fun w' hw'=>?_⟩) (by assumption) ?_
   · clear hHeld
     go_simp
   try simp only [Act.put,sIB,sCZ,sCS]
   refine wpAnyH_take (i:=8) (oi:=⟨some 20,_,_,_,_,_⟩) (v:=.bool (decide (c.st<(S.length:Int)))) rfl (by kernel_rfl) (by kernel_rfl) (by kernel_rfl) (fun _ _ _ h=>h) (Or.inl ⟨by rfl,fun w' hw'=>?_⟩) (by assumption) ?_
   · clear hHeld
     go_simp
   try simp only [Act.put,sIB,sCZ,sCS]
   refine wpAnyH_take (i:=9) (oi:=⟨some 2,_,_,_,_,_⟩) (v:=.int .i64 c.st) rfl (by kernel_rfl) (by kernel_rfl) (by kernel_rfl) (fun _ _ _ h=>h) (Or.inl ⟨by rfl,fun w' hw'=>?_⟩) (by assumption) ?_
   · clear hHeld
     go_simp
   try simp only [Act.put,sIB,sCZ,sCS]
   refine wpAnyH_take (i:=10) (oi:=⟨some 3,_,_,_,_,_⟩) (v:=.bool (decide (c.st<(S.length:Int)))) rfl (by kernel_rfl) (by kernel_rfl) (by kernel_rfl) (fun _ _ _ h=>h) (Or.inl ⟨by rfl,fun w' hw'=>?_⟩) (by assumption) ?_
   · clear hHeld
     go_simp
   try simp only [Act.put,sIB,sCZ,sCS]
   have hfin:=hHeld.out
   refine wpAnyH_done (by kernel_rfl) ?_ _
   clear hHeld
   go_wp2_with fail
   go_ret2
   exact⟨by rw [HT2.out];rfl,HB1.out.trans (hfin.mono HB1.out.size)⟩
 · rw [hbk] at a11 HT
   have HT2:Hid (z1u (c.x L T M)=(c.st-1,decide (0<c.st))):=hid HT.out
   clear HT HS
   go_enter Tryz.func65,Tryz.ntmps65
   go_upto_region 1 with (fail)
   rw [HW1.out,HRE.out]
   go_upto_region 2 with (fail)
   have hbd:Below W1.heap.size W1 W1.drew:=(Below.refl _ _).drew
   refine wp_region_held_drew (S:=fun w'=>Hid (Below W1.heap.size W1 w')) (by kernel_rfl) (hid hbd) (fun hHeld=>?_)
   clear hbd
   generalize W1.drew=Wd at *
   refine wpAnyH_take (i:=0) (oi:=⟨some 6,_,_,_,_,_⟩) (v:=.pointer (some ⟨B,12,none⟩)) rfl (by kernel_rfl) (by kernel_rfl) (by kernel_rfl) (fun _ _ _ h=>h) (Or.inl ⟨by rfl,fun w' hw'=>?_⟩) (by assumption) ?_
   · clear hHeld
     go_simp
   try simp only [Act.put,sIB,sCZ,sCS]
   refine wpAnyH_take (i:=1) (oi:=⟨some 7,_,_,_,_,_⟩) (v:=.int .i64 c.st) rfl (by kernel_rfl) (by kernel_rfl) (by kernel_rfl) (fun _ _ _ h=>h) (Or.inl ⟨by rfl,fun w' hw'=>?_⟩) (by assumption) ?_
   · have hcx:=(HX.out.later hw'.out).at.2.2.1
     clear hHeld hw'
     go_simp
   try simp only [Act.put,sIB,sCZ,sCS]
   refine wpAnyH_take (i:=2) (oi:=⟨some 8,_,_,_,_,_⟩) (v:=.int .i64 (c.st-1)) rfl (by kernel_rfl) (by kernel_rfl) (by kernel_rfl) (fun _ _ _ h=>h) (Or.inl ⟨by rfl,fun w' hw'=>?_⟩) (by assumption) ?_
   · clear hHeld
     go_simp
   try simp only [Act.put,sIB,sCZ,sCS]
   refine wpAnyH_take (i:=3) (oi:=⟨some 9,_,_,_,_,_⟩) (v:=.pointer (some ⟨B,12,none⟩)) rfl (by kernel_rfl) (by kernel_rfl) (by kernel_rfl) (fun _ _ _ h=>h) (Or.inl ⟨by rfl,fun w' hw'=>?_⟩) (by assumption) ?_
   · clear hHeld
     go_simp
   try simp only [Act.put,sIB,sCZ,sCS]
   refine wpAnyH_take (i:=4) (oi:=⟨some 10,_,_,_,_,_⟩) (v:=.int .i64 c.st) rfl (by kernel_rfl) (by kernel_rfl) (by kernel_rfl) (fun _ _ _ h=>h) (Or.inl ⟨by rfl,fun w' hw'=>?_⟩) (by assumption) ?_
   · have hcx:=(HX.out.later hw'.out).at.2.2.1
     clear hHeld hw'
     go_simp
   try simp only [Act.put,sIB,sCZ,sCS]
   refine wpAnyH_take (i:=5) (oi:=⟨some 11,_,_,_,_,_⟩) (v:=.bool (decide (0<c.st))) rfl (by kernel_rfl) (by kernel_rfl) (by kernel_rfl) (fun _ _ _ h=>h) (Or.inl ⟨by rfl,fun w' hw'=>?_⟩) (by assumption) ?_
   · clear hHeld
     go_simp
   try simp only [Act.put,sIB,sCZ,sCS]
   refine wpAnyH_take (i:=6) (oi:=⟨some 2,_,_,_,_,_⟩) (v:=.int .i64 (c.st-1)) rfl (by kernel_rfl) (by kernel_rfl) (by kernel_rfl) (fun _ _ _ h=>h) (Or.inl ⟨by rfl,fun w' hw'=>?_⟩) (by assumption) ?_
   · clear hHeld
     go_simp
   try simp only [Act.put,sIB,sCZ,sCS]
   refine wpAnyH_take (i:=7) (oi:=⟨some 3,_,_,_,_,_⟩) (v:=.bool (decide (0<c.st))) rfl (by kernel_rfl) (by kernel_rfl) (by kernel_rfl) (fun _ _ _ h=>h) (Or.inl ⟨by rfl,fun w' hw'=>?_⟩) (by assumption) ?_
   · clear hHeld
     go_simp
   try simp only [Act.put,sIB,sCZ,sCS]
   have hfin:=hHeld.out
   refine wpAnyH_done (by kernel_rfl) ?_ _
   clear hHeld
   go_wp2_with fail
   go_ret2
   exact⟨by rw [HT2.out];rfl,HB1.out.trans (hfin.mono HB1.out.size)⟩
theorem cr_outcome (c:Cv) (L:List Ln) (T:List Tk) (M:List Ln) (W:World):Calls Tryz.prog 66 #[.agg (ccs c)] W fun e w'=>e=.returned (.int .u8 (outC (c.x L T M)))∧Below W.heap.size W w':=by
 obtain⟨W1,hW1,hx,hb1⟩:∃ W1,W.alloc (.cells (ccs c) 34)=W1∧CB W1 W.heap.size c∧Below W.heap.size W W1:=⟨_,rfl,CB.new W c,(Below.refl _ _).alloc (Nat.le_refl _) _⟩
 obtain⟨B,hB⟩:∃ B,W.heap.size=B:=⟨_,rfl⟩
 rw [hB] at hx
 have HX:=hid hx
 have HW1:=hid hW1
 have HB1:=hid hb1
 have HRE:=hid hB
 have a11:=hx.at.2.1
 have HO:Hid (outC (c.x L T M)=if c.bk then 2 else 1):=hid rfl
 clear hW1 hx hb1 hB
 cases hbk:c.bk
 all_goals
  rw [hbk] at a11 HO
  go_enter Tryz.func66,Tryz.ntmps66
  go_upto_region 1 with (fail)
  rw [HW1.out,HRE.out]
  go_wp2_with fail
  go_ret
  exact⟨by rw [HO.out];rfl,HB1.out⟩
theorem cr_two (W:World) (c:Cv) (r:Rv):∃ W1,(W.alloc (.cells (ccs c) 34)).alloc (.cells (rcs r) 42)=W1∧CB W1 W.heap.size c∧RB W1 (W.heap.size+1) r∧Below W.heap.size W W1:=by
 have hb0:Below W.heap.size W (W.alloc (.cells (ccs c) 34)):=(Below.refl _ _).alloc (Nat.le_refl _) _
 have hs:(W.alloc (.cells (ccs c) 34)).heap.size=W.heap.size+1:=by simp only [World.alloc,Array.size_push]
 have hb1:Below (W.alloc (.cells (ccs c) 34)).heap.size (W.alloc (.cells (ccs c) 34)) ((W.alloc (.cells (ccs c) 34)).alloc (.cells (rcs r) 42)):=(Below.refl _ _).alloc (Nat.le_refl _) _
 refine⟨_,rfl,(CB.new W c).later hb1,?_,hb0.trans (hb1.mono hb0.size)⟩
 have h:=RB.new (W.alloc (.cells (ccs c) 34)) r
 rw [hs] at h
 exact h
theorem cr_fits (c:Cv) (L:List Ln) (T:List Tk) (M:List Ln) (W:World) (hw:Words W) (hP:CvM W c L T M) (hok:Crok (c.x L T M)) (h1:c.p.ln≤400∧c.p.tn≤400∧c.p.wn≤400) (hg:z3c (c.x L T M)=true) (r:Rv) (La:List Ln) (Ta:List Tk) (Ma:List Ln) (hst:0≤r.st∧r.st≤255):Calls Tryz.prog 68 #[.agg (ccs c),.agg (rcs r)] W fun e w'=>e=.returned (.bool (z8h (c.x L T M) (r.x La Ta Ma)))∧Below W.heap.size W w':=by
 obtain⟨W1,hW1,hx,hy,hb1⟩:∃ W1,(W.alloc (.cells (ccs c) 34)).alloc (.cells (rcs r) 42)=W1∧CB W1 W.heap.size c∧RB W1 (W.heap.size+1) r∧Below W.heap.size W W1:=cr_two W c r
 obtain⟨B,hB⟩:∃ B,W.heap.size=B:=⟨_,rfl⟩
 rw [hB] at hx hy
 have HX:=hid hx
 have HY:=hid hy
 have HW1:=hid hW1
 have HB1:=hid hb1
 have HRE:=hid hB
 have HTU:=hid (q1i c L T M W1 (hw.later hb1) (hP.later hb1) hok h1 hg)
 have HO:=hid (fun W=>cr_outcome c L T M W)
 have hwr:IntKind.i64.wrap r.st=r.st:=IntWalk.i64_in _ (by omega)
 have HF0:Hid (z8h (c.x L T M) (r.x La Ta Ma)=(if r.k=2 then ((r.sg==c.sg) && (c.tx==0)) && (z1u (c.x L T M)).2 && (r.cp==c.bk) && (r.st==(z1u (c.x L T M)).1)
 else if r.k=3∨r.k=6∨r.k=7 then (r.tx==c.tx)
 else if r.k=4 then (r.tx==c.tx) && (z1u (c.x L T M)).2
 else if r.k=5 then (r.tx==c.tx) && !c.bk && decide (c.tr<9223372036854775807)
 else if r.k=8 then ((r.sg==c.sg) && (c.tx==0)) && !c.bk
 else if r.k=9 then ((r.sg==c.sg) && (c.tx==0)) && !(z1u (c.x L T M)).2 && (r.o==outC (c.x L T M))
 else false)):=hid rfl
 generalize c.x L T M=X at *
 obtain⟨a,ha⟩:∃ a,(z1u X).1=a:=⟨_,rfl⟩
 obtain⟨ty,hty⟩:∃ a,(z1u X).2=a:=⟨_,rfl⟩
 obtain⟨o,ho⟩:∃ a,outC X=a:=⟨_,rfl⟩
 obtain⟨bt,hbt⟩:∃ a,((r.sg==c.sg) && (c.tx==0))=a:=⟨_,rfl⟩
 obtain⟨wi,hwi⟩:∃ a,(r.tx==c.tx)=a:=⟨_,rfl⟩
 rw [ha,hty,ho,hbt,hwi] at HF0
 rw [ha,hty] at HTU
 rw [ho] at HO
 generalize z8h X (r.x La Ta Ma)=F at *
 have HBT:=hid hbt
 have HWI:=hid hwi
 have e0:=hx.at.1
 have e14:=hx.at.2.2.2.2
 have f1:=hy.at.2.1
 have f2:=hy.at.2.2.1
 clear hW1 hx hy hb1 hB hw hP hok h1 hg ha hty ho hbt hwi hst
 go_enter Tryz.func68,Tryz.ntmps68
 go_upto_region 1 with (fail)
 rw [HW1.out,HRE.out]
 go_cut [5] from 9 (fun s5 wx=>s5=.bool bt∧wx=W1)
 case first =>
  cases q1:(r.sg==c.sg)
  all_goals
   go_wp2_with fail
   go_meet
   refine⟨?_,rfl⟩
   rw [← HBT.out,q1]
   rfl
 case rest =>
 obtain⟨rfl,rfl⟩:=hcut
 go_upto_region 3 with (fail)
 rw [HWI.out]
 clear e0 e14 f1 f2
 go_wp2_with ((with_reducible refine z0f HX.out ?_ ?_);rfl)
 refine HTU.out.mono ?_
 rintro e w2 ⟨rfl,h2⟩
 have HX2:=hid (HX.out.later h2)
 have HY2:=hid (HY.out.later h2)
 have HB2:=hid (HB1.out.trans (h2.mono HB1.out.size))
 clear h2 HX HY HTU
 have y0:=z0a (j:=0) HY2.out (v:=.int .u8 r.k) rfl
 go_upto_region 4 with (fail)
 have y3:=z0a (j:=3) HY2.out (v:=.int .u8 r.st) rfl
 have y4:=z0a (j:=4) HY2.out (v:=.bool r.cp) rfl
 have y9:=z0a (j:=9) HY2.out (v:=.int .u8 r.o) rfl
 have c11:=HX2.out.at.2.1
 have c13:=HX2.out.at.2.2.2.1
 by_cases hk:r.k=2
 · have HF:Hid (F=(bt && ty && (r.cp==c.bk) && (r.st==a))):=hid (by rw [HF0.out,hk];rfl)
   rw [hk] at y0
   clear hk HF0
   cases bt <;> cases ty <;> cases q:(r.cp==c.bk)
   all_goals
    go_wp2_with fail
    go_ret
    exact⟨by rw [HF.out];simp [*],HB2.out⟩
 by_cases hk:r.k=3
 · have HF:Hid (F=wi):=hid (by rw [HF0.out,hk];rfl)
   rw [hk] at y0
   clear hk HF0
   all_goals
    go_wp2_with fail
    go_ret
    exact⟨by rw [HF.out];simp [*],HB2.out⟩
 by_cases hk:r.k=6
 · have HF:Hid (F=wi):=hid (by rw [HF0.out,hk];rfl)
   rw [hk] at y0
   clear hk HF0
   all_goals
    go_wp2_with fail
    go_ret
    exact⟨by rw [HF.out];simp [*],HB2.out⟩
 by_cases hk:r.k=7
 · have HF:Hid (F=wi):=hid (by rw [HF0.out,hk];rfl)
   rw [hk] at y0
   clear hk HF0
   all_goals
    go_wp2_with fail
    go_ret
    exact⟨by rw [HF.out];simp [*],HB2.out⟩
 by_cases hk:r.k=4
 · have HF:Hid (F=(wi && ty)):=hid (by rw [HF0.out,hk];rfl)
   rw [hk] at y0
   clear hk HF0
   cases wi
   all_goals
    go_wp2_with fail
    go_ret
    exact⟨by rw [HF.out];simp [*],HB2.out⟩
 by_cases hk:r.k=5
 · have HF:Hid (F=(wi && !c.bk && decide (c.tr<9223372036854775807))):=hid (by rw [HF0.out,hk];rfl)
   rw [hk] at y0
   clear hk HF0
   cases wi <;> cases q:c.bk
   all_goals
    (try rw [q] at c11)
    go_wp2_with fail
    go_ret
    exact⟨by rw [HF.out];simp [*],HB2.out⟩
 by_cases hk:r.k=8
 · have HF:Hid (F=(bt && !c.bk)):=hid (by rw [HF0.out,hk];rfl)
   rw [hk] at y0
   clear hk HF0
   cases bt
   all_goals
    go_wp2_with fail
    go_ret
    exact⟨by rw [HF.out];simp [*],HB2.out⟩
 by_cases hk:r.k=9
 · have HF:Hid (F=(bt && !ty && (r.o==o))):=hid (by rw [HF0.out,hk];rfl)
   rw [hk] at y0
   clear hk HF0
   cases bt
   case false =>
    go_upto_region 18 with (fail)
    clear y0 y3 y4 y9 c11 c13
    have hbd:Below w2.heap.size w2 w2.drew:=(Below.refl _ _).drew
    refine wp_region_held_drew (S:=fun w'=>Hid (Below w2.heap.size w2 w')) (by kernel_rfl) (hid hbd) (fun hHeld=>?_)
    clear hbd
    generalize w2.drew=Wd at *
    refine wpAnyH_take (i:=0) (oi:=⟨some 85,_,_,_,_,_⟩) (v:=.bool false) rfl (by kernel_rfl) (by kernel_rfl) (by kernel_rfl) (fun _ _ _ h=>h) (Or.inl ⟨by rfl,fun w' hw'=>?_⟩) (by assumption) ?_
    · clear hHeld
      go_simp
    try simp only [Act.put,sIB,sCZ,sCS]
    refine wpAnyH_take (i:=1) (oi:=⟨some 86,_,_,_,_,_⟩) (v:=.bool false) rfl (by kernel_rfl) (by kernel_rfl) (by kernel_rfl) (fun _ _ _ h=>h) (Or.inl ⟨by rfl,fun w' hw'=>?_⟩) (by assumption) ?_
    · clear hHeld
      go_simp
    try simp only [Act.put,sIB,sCZ,sCS]
    refine wpAnyH_take (i:=2) (oi:=⟨some 87,_,_,_,_,_⟩) (v:=undef) rfl (by kernel_rfl) (by kernel_rfl) (by kernel_rfl) (fun _ _ _ h=>h) (Or.inr ⟨by rfl,rfl⟩) (by assumption) ?_
    try simp only [Act.put,sIB,sCZ,sCS]
    refine wpAnyH_take (i:=3) (oi:=⟨some 88,_,_,_,_,_⟩) (v:=undef) rfl (by kernel_rfl) (by kernel_rfl) (by kernel_rfl) (fun _ _ _ h=>h) (Or.inr ⟨by rfl,rfl⟩) (by assumption) ?_
    try simp only [Act.put,sIB,sCZ,sCS]
    refine wpAnyH_take (i:=4) (oi:=⟨some 89,_,_,_,_,_⟩) (v:=.bool false) rfl (by kernel_rfl) (by kernel_rfl) (by kernel_rfl) (fun _ _ _ h=>h) (Or.inl ⟨by rfl,fun w' hw'=>?_⟩) (by assumption) ?_
    · clear hHeld
      go_simp
    try simp only [Act.put,sIB,sCZ,sCS]
    refine wpAnyH_take (i:=5) (oi:=⟨some 90,_,_,_,_,_⟩) (v:=.bool false) rfl (by kernel_rfl) (by kernel_rfl) (by kernel_rfl) (fun _ _ _ h=>h) (Or.inl ⟨by rfl,fun w' hw'=>?_⟩) (by assumption) ?_
    · clear hHeld
      go_simp
    try simp only [Act.put,sIB,sCZ,sCS]
    refine wpAnyH_take (i:=6) (oi:=⟨some 91,_,_,_,_,_⟩) (v:=undef) rfl (by kernel_rfl) (by kernel_rfl) (by kernel_rfl) (fun _ _ _ h=>h) (Or.inr ⟨by rfl,rfl⟩) (by assumption) ?_
    try simp only [Act.put,sIB,sCZ,sCS]
    refine wpAnyH_take (i:=7) (oi:=⟨some 92,_,_,_,_,_⟩) (v:=undef) rfl (by kernel_rfl) (by kernel_rfl) (by kernel_rfl) (fun _ _ _ h=>h) (Or.inr ⟨by rfl,rfl⟩) (by assumption) ?_
    try simp only [Act.put,sIB,sCZ,sCS]
    refine wpAnyH_take (i:=8) (oi:=⟨some 93,_,_,_,_,_⟩) (v:=undef) rfl (by kernel_rfl) (by kernel_rfl) (by kernel_rfl) (fun _ _ _ h=>h) (Or.inr ⟨by rfl,rfl⟩) (by assumption) ?_
    try simp only [Act.put,sIB,sCZ,sCS]
    refine wpAnyH_take (i:=9) (oi:=⟨some 94,_,_,_,_,_⟩) (v:=undef) rfl (by kernel_rfl) (by kernel_rfl) (by kernel_rfl) (fun _ _ _ h=>h) (Or.inr ⟨by rfl,rfl⟩) (by assumption) ?_
    try simp only [Act.put,sIB,sCZ,sCS]
    refine wpAnyH_take (i:=10) (oi:=⟨some 95,_,_,_,_,_⟩) (v:=undef) rfl (by kernel_rfl) (by kernel_rfl) (by kernel_rfl) (fun _ _ _ h=>h) (Or.inr ⟨by rfl,rfl⟩) (by assumption) ?_
    try simp only [Act.put,sIB,sCZ,sCS]
    refine wpAnyH_take (i:=11) (oi:=⟨some 96,_,_,_,_,_⟩) (v:=.bool false) rfl (by kernel_rfl) (by kernel_rfl) (by kernel_rfl) (fun _ _ _ h=>h) (Or.inl ⟨by rfl,fun w' hw'=>?_⟩) (by assumption) ?_
    · clear hHeld
      go_simp
    try simp only [Act.put,sIB,sCZ,sCS]
    refine wpAnyH_take (i:=12) (oi:=⟨some 4,_,_,_,_,_⟩) (v:=.bool false) rfl (by kernel_rfl) (by kernel_rfl) (by kernel_rfl) (fun _ _ _ h=>h) (Or.inl ⟨by rfl,fun w' hw'=>?_⟩) (by assumption) ?_
    · clear hHeld
      go_simp
    try simp only [Act.put,sIB,sCZ,sCS]
    have hfin:=hHeld.out
    refine wpAnyH_done (by kernel_rfl) ?_ _
    clear hHeld
    go_wp2_with fail
    go_ret
    exact⟨by rw [HF.out];simp,HB2.out.trans (hfin.mono HB2.out.size)⟩
   case true =>
    cases ty
    case true =>
     go_upto_region 18 with (fail)
     clear y0 y3 y4 y9 c11 c13
     have hbd:Below w2.heap.size w2 w2.drew:=(Below.refl _ _).drew
     refine wp_region_held_drew (S:=fun w'=>Hid (Below w2.heap.size w2 w')) (by kernel_rfl) (hid hbd) (fun hHeld=>?_)
     clear hbd
     generalize w2.drew=Wd at *
     refine wpAnyH_take (i:=0) (oi:=⟨some 85,_,_,_,_,_⟩) (v:=.bool true) rfl (by kernel_rfl) (by kernel_rfl) (by kernel_rfl) (fun _ _ _ h=>h) (Or.inl ⟨by rfl,fun w' hw'=>?_⟩) (by assumption) ?_
     · clear hHeld
       go_simp
     try simp only [Act.put,sIB,sCZ,sCS]
     refine wpAnyH_take (i:=1) (oi:=⟨some 86,_,_,_,_,_⟩) (v:=.bool true) rfl (by kernel_rfl) (by kernel_rfl) (by kernel_rfl) (fun _ _ _ h=>h) (Or.inl ⟨by rfl,fun w' hw'=>?_⟩) (by assumption) ?_
     · clear hHeld
       go_simp
     try simp only [Act.put,sIB,sCZ,sCS]
     refine wpAnyH_take (i:=2) (oi:=⟨some 87,_,_,_,_,_⟩) (v:=.bool true) rfl (by kernel_rfl) (by kernel_rfl) (by kernel_rfl) (fun _ _ _ h=>h) (Or.inl ⟨by rfl,fun w' hw'=>?_⟩) (by assumption) ?_
     · clear hHeld
       go_simp
     try simp only [Act.put,sIB,sCZ,sCS]
     refine wpAnyH_take (i:=3) (oi:=⟨some 88,_,_,_,_,_⟩) (v:=.bool false) rfl (by kernel_rfl) (by kernel_rfl) (by kernel_rfl) (fun _ _ _ h=>h) (Or.inl ⟨by rfl,fun w' hw'=>?_⟩) (by assumption) ?_
     · clear hHeld
       go_simp
     try simp only [Act.put,sIB,sCZ,sCS]
     refine wpAnyH_take (i:=4) (oi:=⟨some 89,_,_,_,_,_⟩) (v:=.bool false) rfl (by kernel_rfl) (by kernel_rfl) (by kernel_rfl) (fun _ _ _ h=>h) (Or.inl ⟨by rfl,fun w' hw'=>?_⟩) (by assumption) ?_
     · clear hHeld
       go_simp
     try simp only [Act.put,sIB,sCZ,sCS]
     refine wpAnyH_take (i:=5) (oi:=⟨some 90,_,_,_,_,_⟩) (v:=.bool false) rfl (by kernel_rfl) (by kernel_rfl) (by kernel_rfl) (fun _ _ _ h=>h) (Or.inl ⟨by rfl,fun w' hw'=>?_⟩) (by assumption) ?_
     · clear hHeld
       go_simp
     try simp only [Act.put,sIB,sCZ,sCS]
     refine wpAnyH_take (i:=6) (oi:=⟨some 91,_,_,_,_,_⟩) (v:=undef) rfl (by kernel_rfl) (by kernel_rfl) (by kernel_rfl) (fun _ _ _ h=>h) (Or.inr ⟨by rfl,rfl⟩) (by assumption) ?_
     try simp only [Act.put,sIB,sCZ,sCS]
     refine wpAnyH_take (i:=7) (oi:=⟨some 92,_,_,_,_,_⟩) (v:=undef) rfl (by kernel_rfl) (by kernel_rfl) (by kernel_rfl) (fun _ _ _ h=>h) (Or.inr ⟨by rfl,rfl⟩) (by assumption) ?_
     try simp only [Act.put,sIB,sCZ,sCS]
     refine wpAnyH_take (i:=8) (oi:=⟨some 93,_,_,_,_,_⟩) (v:=undef) rfl (by kernel_rfl) (by kernel_rfl) (by kernel_rfl) (fun _ _ _ h=>h) (Or.inr ⟨by rfl,rfl⟩) (by assumption) ?_
     try simp only [Act.put,sIB,sCZ,sCS]
     refine wpAnyH_take (i:=9) (oi:=⟨some 94,_,_,_,_,_⟩) (v:=undef) rfl (by kernel_rfl) (by kernel_rfl) (by kernel_rfl) (fun _ _ _ h=>h) (Or.inr ⟨by rfl,rfl⟩) (by assumption) ?_
     try simp only [Act.put,sIB,sCZ,sCS]
     refine wpAnyH_take (i:=10) (oi:=⟨some 95,_,_,_,_,_⟩) (v:=undef) rfl (by kernel_rfl) (by kernel_rfl) (by kernel_rfl) (fun _ _ _ h=>h) (Or.inr ⟨by rfl,rfl⟩) (by assumption) ?_
     try simp only [Act.put,sIB,sCZ,sCS]
     refine wpAnyH_take (i:=11) (oi:=⟨some 96,_,_,_,_,_⟩) (v:=.bool false) rfl (by kernel_rfl) (by kernel_rfl) (by kernel_rfl) (fun _ _ _ h=>h) (Or.inl ⟨by rfl,fun w' hw'=>?_⟩) (by assumption) ?_
     · clear hHeld
       go_simp
     try simp only [Act.put,sIB,sCZ,sCS]
     refine wpAnyH_take (i:=12) (oi:=⟨some 4,_,_,_,_,_⟩) (v:=.bool false) rfl (by kernel_rfl) (by kernel_rfl) (by kernel_rfl) (fun _ _ _ h=>h) (Or.inl ⟨by rfl,fun w' hw'=>?_⟩) (by assumption) ?_
     · clear hHeld
       go_simp
     try simp only [Act.put,sIB,sCZ,sCS]
     have hfin:=hHeld.out
     refine wpAnyH_done (by kernel_rfl) ?_ _
     clear hHeld
     go_wp2_with fail
     go_ret
     exact⟨by rw [HF.out];simp,HB2.out.trans (hfin.mono HB2.out.size)⟩
    case false =>
     go_upto_region 18 with (fail)
     clear y0 y3 y4 y9 c11 c13
     have hbd:Below w2.heap.size w2 w2.drew:=(Below.refl _ _).drew
     refine wp_region_held_drew (S:=fun w'=>Hid (Below w2.heap.size w2 w')) (by kernel_rfl) (hid hbd) (fun hHeld=>?_)
     clear hbd
     generalize w2.drew=Wd at *
     refine wpAnyH_take (i:=0) (oi:=⟨some 85,_,_,_,_,_⟩) (v:=.bool true) rfl (by kernel_rfl) (by kernel_rfl) (by kernel_rfl) (fun _ _ _ h=>h) (Or.inl ⟨by rfl,fun w' hw'=>?_⟩) (by assumption) ?_
     · clear hHeld
       go_simp
     try simp only [Act.put,sIB,sCZ,sCS]
     refine wpAnyH_take (i:=1) (oi:=⟨some 86,_,_,_,_,_⟩) (v:=.bool true) rfl (by kernel_rfl) (by kernel_rfl) (by kernel_rfl) (fun _ _ _ h=>h) (Or.inl ⟨by rfl,fun w' hw'=>?_⟩) (by assumption) ?_
     · clear hHeld
       go_simp
     try simp only [Act.put,sIB,sCZ,sCS]
     refine wpAnyH_take (i:=2) (oi:=⟨some 87,_,_,_,_,_⟩) (v:=.bool false) rfl (by kernel_rfl) (by kernel_rfl) (by kernel_rfl) (fun _ _ _ h=>h) (Or.inl ⟨by rfl,fun w' hw'=>?_⟩) (by assumption) ?_
     · clear hHeld
       go_simp
     try simp only [Act.put,sIB,sCZ,sCS]
     refine wpAnyH_take (i:=3) (oi:=⟨some 88,_,_,_,_,_⟩) (v:=.bool true) rfl (by kernel_rfl) (by kernel_rfl) (by kernel_rfl) (fun _ _ _ h=>h) (Or.inl ⟨by rfl,fun w' hw'=>?_⟩) (by assumption) ?_
     · clear hHeld
       go_simp
     try simp only [Act.put,sIB,sCZ,sCS]
     refine wpAnyH_take (i:=4) (oi:=⟨some 89,_,_,_,_,_⟩) (v:=.bool true) rfl (by kernel_rfl) (by kernel_rfl) (by kernel_rfl) (fun _ _ _ h=>h) (Or.inl ⟨by rfl,fun w' hw'=>?_⟩) (by assumption) ?_
     · clear hHeld
       go_simp
     try simp only [Act.put,sIB,sCZ,sCS]
     refine wpAnyH_take (i:=5) (oi:=⟨some 90,_,_,_,_,_⟩) (v:=.bool true) rfl (by kernel_rfl) (by kernel_rfl) (by kernel_rfl) (fun _ _ _ h=>h) (Or.inl ⟨by rfl,fun w' hw'=>?_⟩) (by assumption) ?_
     · clear hHeld
       go_simp
     try simp only [Act.put,sIB,sCZ,sCS]
     refine wpAnyH_take (i:=6) (oi:=⟨some 91,_,_,_,_,_⟩) (v:=.pointer (some ⟨B+1,9,none⟩)) rfl (by kernel_rfl) (by kernel_rfl) (by kernel_rfl) (fun _ _ _ h=>h) (Or.inl ⟨by rfl,fun w' hw'=>?_⟩) (by assumption) ?_
     · clear hHeld
       go_simp
     try simp only [Act.put,sIB,sCZ,sCS]
     refine wpAnyH_take (i:=7) (oi:=⟨some 92,_,_,_,_,_⟩) (v:=.int .u8 r.o) rfl (by kernel_rfl) (by kernel_rfl) (by kernel_rfl) (fun _ _ _ h=>h) (Or.inl ⟨by rfl,fun w' hw'=>?_⟩) (by assumption) ?_
     · have hcx:=z0a (j:=9) (HY2.out.later hw'.out) (v:=.int .u8 r.o) rfl
       clear hHeld hw'
       go_simp
     try simp only [Act.put,sIB,sCZ,sCS]
     refine wpAnyH_take (i:=8) (oi:=⟨some 93,_,_,_,_,_⟩) (v:=.agg (ccs c)) rfl (by kernel_rfl) (by kernel_rfl) (by kernel_rfl) (fun _ _ _ h=>h) (Or.inl ⟨by rfl,fun w' hw'=>z4e rfl (HX2.out.later (Hid.out hw'))⟩) (by assumption) ?_
     try simp only [Act.put,sIB,sCZ,sCS]
     refine wpAnyH_ready (rs:=[9]) (by kernel_rfl) (by simp) (AllReadyH.cons rfl (fun K hK=>?_) (AllReadyH.nil))
     go_simp
     go_wp2_with fail
     refine (HO.out _).mono ?_
     rintro e w3 ⟨rfl,hb3⟩
     have hSN:Hid (Below w2.heap.size w2 w3):=hid (hHeld.out.trans (hb3.mono hHeld.out.size))
     clear hb3
     go_wp2_with fail
     refine hK.out _ _ hSN (fun hHeld2=>?_)
     try simp only [Act.put,sIB,sCZ,sCS]
     clear hSN hK K hHeld
     have hHeld:=hHeld2
     clear hHeld2
     refine wpAnyH_take (i:=10) (oi:=⟨some 95,_,_,_,_,_⟩) (v:=.bool (r.o==o)) rfl (by kernel_rfl) (by kernel_rfl) (by kernel_rfl) (fun _ _ _ h=>h) (Or.inl ⟨by rfl,fun w' hw'=>?_⟩) (by assumption) ?_
     · clear hHeld
       go_simp
     try simp only [Act.put,sIB,sCZ,sCS]
     refine wpAnyH_take (i:=11) (oi:=⟨some 96,_,_,_,_,_⟩) (v:=.bool (r.o==o)) rfl (by kernel_rfl) (by kernel_rfl) (by kernel_rfl) (fun _ _ _ h=>h) (Or.inl ⟨by rfl,fun w' hw'=>?_⟩) (by assumption) ?_
     · clear hHeld
       go_simp
     try simp only [Act.put,sIB,sCZ,sCS]
     refine wpAnyH_take (i:=12) (oi:=⟨some 4,_,_,_,_,_⟩) (v:=.bool (r.o==o)) rfl (by kernel_rfl) (by kernel_rfl) (by kernel_rfl) (fun _ _ _ h=>h) (Or.inl ⟨by rfl,fun w' hw'=>?_⟩) (by assumption) ?_
     · clear hHeld
       go_simp
     try simp only [Act.put,sIB,sCZ,sCS]
     have hfin:=hHeld.out
     refine wpAnyH_done (by kernel_rfl) ?_ _
     clear hHeld
     go_wp2_with fail
     go_ret
     exact⟨by rw [HF.out];simp,HB2.out.trans (hfin.mono HB2.out.size)⟩
 rename_i n2 n3 n6 n7 n4 n5 n8
 have HF:Hid (F=false):=hid (by rw [HF0.out,if_neg n2,if_neg (by omega),if_neg n4,if_neg n5,if_neg n8,if_neg hk])
 have b2:(r.k==2)=false:=beq_false_of_ne n2
 have b3:(r.k==3)=false:=beq_false_of_ne n3
 have b6:(r.k==6)=false:=beq_false_of_ne n6
 have b7:(r.k==7)=false:=beq_false_of_ne n7
 have b4:(r.k==4)=false:=beq_false_of_ne n4
 have b5:(r.k==5)=false:=beq_false_of_ne n5
 have b8:(r.k==8)=false:=beq_false_of_ne n8
 have b9:(r.k==9)=false:=beq_false_of_ne hk
 clear HF0 n2 n3 n4 n5 n6 n7 n8 hk
 go_wp2_with fail
 go_ret
 exact⟨by rw [HF.out];rfl,HB2.out⟩
def aftV (c:Cv) (r:Rv):Cv :=
 if r.k=2 then { c with tx:=r.tx }
 else if r.k=4 then { c with st:=if c.bk then c.st-1 else c.st+1,tx:=0 }
 else if r.k=5 then { c with tr:=c.tr+1 }
 else if r.k=7 then { c with tx:=0 }
 else if r.k=8 then { c with bk:=true }
 else c
theorem aftV_x (c:Cv) (r:Rv) (L:List Ln) (T:List Tk) (M:List Ln) (La:List Ln) (Ta:List Tk) (Ma:List Ln):(aftV c r).x L T M=z9f (c.x L T M) (r.x La Ta Ma):=by
 unfold aftV z9f
 show _=if r.k=2 then _ else if r.k=4 then _ else if r.k=5 then _ else if r.k=7 then _ else if r.k=8 then _ else _
 by_cases h2:r.k=2
 · rw [if_pos h2,if_pos h2];rfl
 rw [if_neg h2,if_neg h2]
 by_cases h4:r.k=4
 · rw [if_pos h4,if_pos h4];rfl
 rw [if_neg h4,if_neg h4]
 by_cases h5:r.k=5
 · rw [if_pos h5,if_pos h5];rfl
 rw [if_neg h5,if_neg h5]
 by_cases h7:r.k=7
 · rw [if_pos h7,if_pos h7];rfl
 rw [if_neg h7,if_neg h7]
 by_cases h8:r.k=8
 · rw [if_pos h8,if_pos h8];rfl
 rw [if_neg h8,if_neg h8]
theorem aftV_p (c:Cv) (r:Rv):(aftV c r).p=c.p:=by
 unfold aftV
 repeat (first | rfl | split)
theorem cr_three (W:World) (c:Cv) (r:Rv):∃ W1,((W.alloc (.cells (ccs c) 34)).alloc (.cells (rcs r) 42)).alloc (.cells #[.int .u32 0,.int .u8 0,.int .u32 0,.int .u8 0,.slice none 0 0,.slice none 0 0,.slice none 0 0,.int .u8 0,.int .u8 0,.int .u8 0,.int .i64 0,.bool false,.int .i64 0,.int .i64 0,.int .u32 0] 34)=W1∧CB W1 W.heap.size c∧RB W1 (W.heap.size+1) r∧CB W1 (W.heap.size+2) cz∧Below W.heap.size W W1:=by
 obtain⟨W0,h0,h1,h2,h3⟩:=cr_two W c r
 have hs:W0.heap.size=W.heap.size+2:=by rw [← h0];simp only [World.alloc,Array.size_push]
 have hb:Below W0.heap.size W0 (W0.alloc (.cells #[.int .u32 0,.int .u8 0,.int .u32 0,.int .u8 0,.slice none 0 0,.slice none 0 0,.slice none 0 0,.int .u8 0,.int .u8 0,.int .u8 0,.int .i64 0,.bool false,.int .i64 0,.int .i64 0,.int .u32 0] 34)):=(Below.refl _ _).alloc (Nat.le_refl _) _
 refine⟨_,rfl,?_⟩
 rw [h0]
 refine⟨h1.later hb,h2.later hb,?_,h3.trans (hb.mono h3.size)⟩
 have h:=CB.new W0 cz
 rw [hs] at h
 exact h
theorem z2w {fn:Func} (h:fn.results=#[.cell 4 34]) (tmps:Array Value) (W:World) (R:Nat) (c:Cv) (hp:tmps.getD 4 undef=.pointer (some ⟨R,0,none⟩))
 (hB:CB W R c):(results fn tmps).run Tryz.prog W=.ok (.agg (ccs c)) W :=
 results_cell_row h tmps _ R 34 (ccs c) (0,0) _ hp hB Tryz.underlying34 rfl (by kernel_rfl)
theorem cr_after (c:Cv) (r:Rv) (W:World) (hst:-9223372036854775807≤c.st∧c.st<9223372036854775807) (htr:r.k=5→0≤c.tr∧c.tr<9223372036854775807):Calls Tryz.prog 69 #[.agg (ccs c),.agg (rcs r)] W fun e w'=>e=.returned (.agg (ccs (aftV c r)))∧Below W.heap.size W w':=by
 obtain⟨W1,hW1,hx,hy,hz,hb1⟩:∃ W1,((W.alloc (.cells (ccs c) 34)).alloc (.cells (rcs r) 42)).alloc (.cells #[.int .u32 0,.int .u8 0,.int .u32 0,.int .u8 0,.slice none 0 0,.slice none 0 0,.slice none 0 0,.int .u8 0,.int .u8 0,.int .u8 0,.int .i64 0,.bool false,.int .i64 0,.int .i64 0,.int .u32 0] 34)=W1∧CB W1 W.heap.size c∧RB W1 (W.heap.size+1) r∧CB W1 (W.heap.size+2) cz∧Below W.heap.size W W1:=cr_three W c r
 obtain⟨B,hB⟩:∃ B,W.heap.size=B:=⟨_,rfl⟩
 rw [hB] at hx hy hz
 have HX:=hid hx
 have HY:=hid hy
 have HZ:=hid hz
 have HW1:=hid hW1
 have HB1:=hid hb1
 have HRE:=hid hB
 have HTR:=hid htr
 have hw1:IntKind.i64.wrap (c.st-1)=c.st-1:=IntWalk.i64_in _ (by omega)
 have hw2:IntKind.i64.wrap (c.st+1)=c.st+1:=IntWalk.i64_in _ (by omega)
 have y0:=z0a (j:=0) hy (v:=.int .u8 r.k) rfl
 have y2:=z0a (j:=2) hy (v:=.int .u32 r.tx) rfl
 obtain⟨a0,a11,a12,a13,a14⟩:=hx.at
 have f11:=hx.free 11
 have f12:=hx.free 12
 have f13:=hx.free 13
 have f14:=hx.free 14
 have HK0:Hid (aftV c r=if r.k=2 then { c with tx:=r.tx }
 else if r.k=4 then { c with st:=if c.bk then c.st-1 else c.st+1,tx:=0 }
 else if r.k=5 then { c with tr:=c.tr+1 }
 else if r.k=7 then { c with tx:=0 }
 else if r.k=8 then { c with bk:=true }
 else c):=hid rfl
 generalize aftV c r=V at *
 clear hW1 hx hy hz hb1 hB hst htr a0
 by_cases hk:r.k=2
 · have HK:Hid (V={ c with tx:=r.tx }):=hid (by rw [HK0.out,hk];rfl)
   rw [hk] at y0
   clear hk HK0
   go_enter Tryz.func69,Tryz.ntmps69
   go_upto_region 1 with (fail)
   (rw [HW1.out,HRE.out];try rw [show B+1+1=B+2 from rfl])
   go_upto_region 15 with (fail)
   have hc2:Chg (fun k=>k=B) W1 (W1.setCell ⟨B,14,none⟩ (.int .u32 r.tx)):=(Chg.refl _ _).setCell _ _ fun _=>rfl
   have HX2:Hid (CB (W1.setCell ⟨B,14,none⟩ (.int .u32 r.tx)) B ({ c with tx:=r.tx })):=hid (HX.out.put 14 (.int .u32 r.tx) _ rfl)
   have HZ2:Hid (CB (W1.setCell ⟨B,14,none⟩ (.int .u32 r.tx)) (B+2) cz):=hid (HZ.out.chg hc2 (by omega))
   have HB2:Hid (Below W.heap.size W (W1.setCell ⟨B,14,none⟩ (.int .u32 r.tx))):=hid (Chg.below HB1.out HB1.out.size hc2 fun k hk=>by rw [hk];exact Nat.le_of_eq HRE.out)
   clear hc2
   go_wp2_with (first | ((with_reducible refine z0f HX2.out ?_ ?_);rfl) | ((with_reducible refine z0p ({ c with tx:=r.tx }) HZ2.out ?_ ?_ ?_);rfl;rfl))
   (try simp only [Exit.inBlock,Exit.then])
   refine bodyPost_ret (v:=.agg (ccs ({ c with tx:=r.tx }))) ?_ rfl ⟨by rw [HK.out],below_setRow HB2.out (by have:=HRE.out;omega) _⟩
   exact z2w rfl _ _ (B+2) _ rfl (HZ2.out.set _)
 by_cases hk:r.k=5
 · have HK:Hid (V={ c with tr:=c.tr+1 }):=hid (by rw [HK0.out,hk];rfl)
   rw [hk] at y0
   have hw5:IntKind.i64.wrap (c.tr+1)=c.tr+1:=IntWalk.i64_in _ (by have:=HTR.out hk;omega)
   clear hk HK0
   go_enter Tryz.func69,Tryz.ntmps69
   go_upto_region 1 with (fail)
   (rw [HW1.out,HRE.out];try rw [show B+1+1=B+2 from rfl])
   go_upto_region 15 with (fail)
   have hc2:Chg (fun k=>k=B) W1 (W1.setCell ⟨B,13,none⟩ (.int .i64 (c.tr+1))):=(Chg.refl _ _).setCell _ _ fun _=>rfl
   have HX2:Hid (CB (W1.setCell ⟨B,13,none⟩ (.int .i64 (c.tr+1))) B ({ c with tr:=c.tr+1 })):=hid (HX.out.put 13 (.int .i64 (c.tr+1)) _ rfl)
   have HZ2:Hid (CB (W1.setCell ⟨B,13,none⟩ (.int .i64 (c.tr+1))) (B+2) cz):=hid (HZ.out.chg hc2 (by omega))
   have HB2:Hid (Below W.heap.size W (W1.setCell ⟨B,13,none⟩ (.int .i64 (c.tr+1)))):=hid (Chg.below HB1.out HB1.out.size hc2 fun k hk=>by rw [hk];exact Nat.le_of_eq HRE.out)
   clear hc2
   go_wp2_with (first | ((with_reducible refine z0f HX2.out ?_ ?_);rfl) | ((with_reducible refine z0p ({ c with tr:=c.tr+1 }) HZ2.out ?_ ?_ ?_);rfl;rfl))
   (try simp only [Exit.inBlock,Exit.then])
   refine bodyPost_ret (v:=.agg (ccs ({ c with tr:=c.tr+1 }))) ?_ rfl ⟨by rw [HK.out],below_setRow HB2.out (by have:=HRE.out;omega) _⟩
   exact z2w rfl _ _ (B+2) _ rfl (HZ2.out.set _)
 by_cases hk:r.k=7
 · have HK:Hid (V={ c with tx:=0 }):=hid (by rw [HK0.out,hk];rfl)
   rw [hk] at y0
   clear hk HK0
   go_enter Tryz.func69,Tryz.ntmps69
   go_upto_region 1 with (fail)
   (rw [HW1.out,HRE.out];try rw [show B+1+1=B+2 from rfl])
   go_upto_region 15 with (fail)
   have hc2:Chg (fun k=>k=B) W1 (W1.setCell ⟨B,14,none⟩ (.int .u32 0)):=(Chg.refl _ _).setCell _ _ fun _=>rfl
   have HX2:Hid (CB (W1.setCell ⟨B,14,none⟩ (.int .u32 0)) B ({ c with tx:=0 })):=hid (HX.out.put 14 (.int .u32 0) _ rfl)
   have HZ2:Hid (CB (W1.setCell ⟨B,14,none⟩ (.int .u32 0)) (B+2) cz):=hid (HZ.out.chg hc2 (by omega))
   have HB2:Hid (Below W.heap.size W (W1.setCell ⟨B,14,none⟩ (.int .u32 0))):=hid (Chg.below HB1.out HB1.out.size hc2 fun k hk=>by rw [hk];exact Nat.le_of_eq HRE.out)
   clear hc2
   go_wp2_with (first | ((with_reducible refine z0f HX2.out ?_ ?_);rfl) | ((with_reducible refine z0p ({ c with tx:=0 }) HZ2.out ?_ ?_ ?_);rfl;rfl))
   (try simp only [Exit.inBlock,Exit.then])
   refine bodyPost_ret (v:=.agg (ccs ({ c with tx:=0 }))) ?_ rfl ⟨by rw [HK.out],below_setRow HB2.out (by have:=HRE.out;omega) _⟩
   exact z2w rfl _ _ (B+2) _ rfl (HZ2.out.set _)
 by_cases hk:r.k=8
 · have HK:Hid (V={ c with bk:=true }):=hid (by rw [HK0.out,hk];rfl)
   rw [hk] at y0
   clear hk HK0
   go_enter Tryz.func69,Tryz.ntmps69
   go_upto_region 1 with (fail)
   (rw [HW1.out,HRE.out];try rw [show B+1+1=B+2 from rfl])
   go_upto_region 15 with (fail)
   have hc2:Chg (fun k=>k=B) W1 (W1.setCell ⟨B,11,none⟩ (.bool true)):=(Chg.refl _ _).setCell _ _ fun _=>rfl
   have HX2:Hid (CB (W1.setCell ⟨B,11,none⟩ (.bool true)) B ({ c with bk:=true })):=hid (HX.out.put 11 (.bool true) _ rfl)
   have HZ2:Hid (CB (W1.setCell ⟨B,11,none⟩ (.bool true)) (B+2) cz):=hid (HZ.out.chg hc2 (by omega))
   have HB2:Hid (Below W.heap.size W (W1.setCell ⟨B,11,none⟩ (.bool true))):=hid (Chg.below HB1.out HB1.out.size hc2 fun k hk=>by rw [hk];exact Nat.le_of_eq HRE.out)
   clear hc2
   go_wp2_with (first | ((with_reducible refine z0f HX2.out ?_ ?_);rfl) | ((with_reducible refine z0p ({ c with bk:=true }) HZ2.out ?_ ?_ ?_);rfl;rfl))
   (try simp only [Exit.inBlock,Exit.then])
   refine bodyPost_ret (v:=.agg (ccs ({ c with bk:=true }))) ?_ rfl ⟨by rw [HK.out],below_setRow HB2.out (by have:=HRE.out;omega) _⟩
   exact z2w rfl _ _ (B+2) _ rfl (HZ2.out.set _)
 by_cases hk:r.k=4
 · cases hbk:c.bk
   · have HK:Hid (V={ c with st:=c.st+1,tx:=0 }):=hid (by rw [HK0.out,hk,hbk];rfl)
     rw [hk] at y0
     rw [hbk] at a11
     clear hk HK0 hbk
     go_enter Tryz.func69,Tryz.ntmps69
     go_upto_region 1 with (fail)
     (rw [HW1.out,HRE.out];try rw [show B+1+1=B+2 from rfl])
     go_upto_region 15 with (fail)
     have hc2:Chg (fun k=>k=B) W1 (W1.setCell ⟨B,12,none⟩ (.int .i64 (c.st+1))):=(Chg.refl _ _).setCell _ _ fun _=>rfl
     have HX2:Hid (CB (W1.setCell ⟨B,12,none⟩ (.int .i64 (c.st+1))) B ({ c with st:=c.st+1 })):=hid (HX.out.put 12 (.int .i64 (c.st+1)) _ rfl)
     have HZ2:Hid (CB (W1.setCell ⟨B,12,none⟩ (.int .i64 (c.st+1))) (B+2) cz):=hid (HZ.out.chg hc2 (by omega))
     have HB2:Hid (Below W.heap.size W (W1.setCell ⟨B,12,none⟩ (.int .i64 (c.st+1)))):=hid (Chg.below HB1.out HB1.out.size hc2 fun k hk=>by rw [hk];exact Nat.le_of_eq HRE.out)
     clear hc2
     have hc3:Chg (fun k=>k=B) (W1.setCell ⟨B,12,none⟩ (.int .i64 (c.st+1))) ((W1.setCell ⟨B,12,none⟩ (.int .i64 (c.st+1))).setCell ⟨B,14,none⟩ (.int .u32 0)):=(Chg.refl _ _).setCell _ _ fun _=>rfl
     have HX3:Hid (CB ((W1.setCell ⟨B,12,none⟩ (.int .i64 (c.st+1))).setCell ⟨B,14,none⟩ (.int .u32 0)) B ({ c with st:=c.st+1,tx:=0 })):=hid (HX2.out.put 14 (.int .u32 0) _ rfl)
     have HZ3:Hid (CB ((W1.setCell ⟨B,12,none⟩ (.int .i64 (c.st+1))).setCell ⟨B,14,none⟩ (.int .u32 0)) (B+2) cz):=hid (HZ2.out.chg hc3 (by omega))
     have HB3:Hid (Below W.heap.size W ((W1.setCell ⟨B,12,none⟩ (.int .i64 (c.st+1))).setCell ⟨B,14,none⟩ (.int .u32 0))):=hid (Chg.below HB2.out HB2.out.size hc3 fun k hk=>by rw [hk];exact Nat.le_of_eq HRE.out)
     clear hc3
     go_wp2_with (first | ((with_reducible refine z0f HX3.out ?_ ?_);rfl) | ((with_reducible refine z0p ({ c with st:=c.st+1,tx:=0 }) HZ3.out ?_ ?_ ?_);rfl;rfl))
     (try simp only [Exit.inBlock,Exit.then])
     refine bodyPost_ret (v:=.agg (ccs ({ c with st:=c.st+1,tx:=0 }))) ?_ rfl ⟨by rw [HK.out],below_setRow HB3.out (by have:=HRE.out;omega) _⟩
     exact z2w rfl _ _ (B+2) _ rfl (HZ3.out.set _)
   · have HK:Hid (V={ c with st:=c.st-1,tx:=0 }):=hid (by rw [HK0.out,hk,hbk];rfl)
     rw [hk] at y0
     rw [hbk] at a11
     clear hk HK0 hbk
     go_enter Tryz.func69,Tryz.ntmps69
     go_upto_region 1 with (fail)
     (rw [HW1.out,HRE.out];try rw [show B+1+1=B+2 from rfl])
     go_upto_region 15 with (fail)
     have hc2:Chg (fun k=>k=B) W1 (W1.setCell ⟨B,12,none⟩ (.int .i64 (c.st-1))):=(Chg.refl _ _).setCell _ _ fun _=>rfl
     have HX2:Hid (CB (W1.setCell ⟨B,12,none⟩ (.int .i64 (c.st-1))) B ({ c with st:=c.st-1 })):=hid (HX.out.put 12 (.int .i64 (c.st-1)) _ rfl)
     have HZ2:Hid (CB (W1.setCell ⟨B,12,none⟩ (.int .i64 (c.st-1))) (B+2) cz):=hid (HZ.out.chg hc2 (by omega))
     have HB2:Hid (Below W.heap.size W (W1.setCell ⟨B,12,none⟩ (.int .i64 (c.st-1)))):=hid (Chg.below HB1.out HB1.out.size hc2 fun k hk=>by rw [hk];exact Nat.le_of_eq HRE.out)
     clear hc2
     have hc3:Chg (fun k=>k=B) (W1.setCell ⟨B,12,none⟩ (.int .i64 (c.st-1))) ((W1.setCell ⟨B,12,none⟩ (.int .i64 (c.st-1))).setCell ⟨B,14,none⟩ (.int .u32 0)):=(Chg.refl _ _).setCell _ _ fun _=>rfl
     have HX3:Hid (CB ((W1.setCell ⟨B,12,none⟩ (.int .i64 (c.st-1))).setCell ⟨B,14,none⟩ (.int .u32 0)) B ({ c with st:=c.st-1,tx:=0 })):=hid (HX2.out.put 14 (.int .u32 0) _ rfl)
     have HZ3:Hid (CB ((W1.setCell ⟨B,12,none⟩ (.int .i64 (c.st-1))).setCell ⟨B,14,none⟩ (.int .u32 0)) (B+2) cz):=hid (HZ2.out.chg hc3 (by omega))
     have HB3:Hid (Below W.heap.size W ((W1.setCell ⟨B,12,none⟩ (.int .i64 (c.st-1))).setCell ⟨B,14,none⟩ (.int .u32 0))):=hid (Chg.below HB2.out HB2.out.size hc3 fun k hk=>by rw [hk];exact Nat.le_of_eq HRE.out)
     clear hc3
     go_wp2_with (first | ((with_reducible refine z0f HX3.out ?_ ?_);rfl) | ((with_reducible refine z0p ({ c with st:=c.st-1,tx:=0 }) HZ3.out ?_ ?_ ?_);rfl;rfl))
     (try simp only [Exit.inBlock,Exit.then])
     refine bodyPost_ret (v:=.agg (ccs ({ c with st:=c.st-1,tx:=0 }))) ?_ rfl ⟨by rw [HK.out],below_setRow HB3.out (by have:=HRE.out;omega) _⟩
     exact z2w rfl _ _ (B+2) _ rfl (HZ3.out.set _)
 rename_i n2 n5 n7 n8
 have HK:Hid (V=c):=hid (by rw [HK0.out,if_neg n2,if_neg hk,if_neg n5,if_neg n7,if_neg n8])
 have b2:(r.k==2)=false:=beq_false_of_ne n2
 have b4:(r.k==4)=false:=beq_false_of_ne hk
 have b5:(r.k==5)=false:=beq_false_of_ne n5
 have b7:(r.k==7)=false:=beq_false_of_ne n7
 have b8:(r.k==8)=false:=beq_false_of_ne n8
 clear HK0 n2 n5 n7 n8 hk
 go_enter Tryz.func69,Tryz.ntmps69
 go_upto_region 1 with (fail)
 (rw [HW1.out,HRE.out];try rw [show B+1+1=B+2 from rfl])
 go_upto_region 15 with (fail)
 go_wp2_with (first | ((with_reducible refine z0f HX.out ?_ ?_);rfl) | ((with_reducible refine z0p (c) HZ.out ?_ ?_ ?_);rfl;rfl))
 (try simp only [Exit.inBlock,Exit.then])
 refine bodyPost_ret (v:=.agg (ccs (c))) ?_ rfl ⟨by rw [HK.out],below_setRow HB1.out (by have:=HRE.out;omega) _⟩
 exact z2w rfl _ _ (B+2) _ rfl (HZ.out.set _)
theorem wpList_store_pg (k od po:Int) (lp:Option Addr) (ln lcp:Nat) (tp:Option Addr) (tn tcp:Nat) (wp:Option Addr) (wn wcp:Nat) (sk fr to q:Int) {ops:Array Oper} {rest:List Oper} {a:Act} {w:World} {Q:Exit→Act→World→Prop} {dst:Option Tmp} {x y:Operand} {ty:TypeId} {pos:String} {after:Array Edge} {B:Nat} (hB:w.heap[B]?=some (.cells zc 26 (0,0)))
 (hx:a.eval x=.pointer (some ⟨B,0,none⟩)) (hy:a.eval y=.agg #[.int .u8 k,.int .u32 od,.int .u8 po,.slice lp ln lcp,.slice tp tn tcp,.slice wp wn wcp,.int .u8 sk,.int .u8 fr,.int .u8 to,.int .i64 q])
 (h:wpList Tryz.prog ops Q rest (a.put dst undef) (w.setRow B #[.int .u8 k,.int .u32 od,.int .u8 po,.slice lp ln lcp,.slice tp tn tcp,.slice wp wn wcp,.int .u8 sk,.int .u8 fr,.int .u8 to,.int .i64 q])):wpList Tryz.prog ops Q (Oper.mk dst (.store 26 x y) ty pos after none::rest) a w :=
 wpList_store_row rfl 26 x y rfl B #[.int .u8 k,.int .u32 od,.int .u8 po,.slice lp ln lcp,.slice tp tn tcp,.slice wp wn wcp,.int .u8 sk,.int .u8 fr,.int .u8 to,.int .i64 q] hx hy 26 zc hB (by kernel_rfl) rfl (by simp [Value.oneCell']) h
def GivesC2 (W:World) (P:Pg) (e:Ending) (w':World):Prop:=∃ lp lc tp tc wp wc,e=.returned (.agg #[.int .u8 P.kind,.int .u32 P.order,.int .u8 P.policy,.slice lp P.lines.length lc,.slice tp P.takes.length tc,.slice wp P.owes.length wc,.int .u8 P.sku,.int .u8 P.frm,.int .u8 P.to,.int .i64 P.qty])∧PgM w' lp P.lines.length lc P.lines tp P.takes.length tc P.takes wp P.owes.length wc P.owes∧w'.ownsRow 0 73 4 (.slice tp P.takes.length tc) P.takes.length (z0n tkc P.takes)∧(∀ a,tp=some a→W.heap.size≤a.block)∧Below W.heap.size W w'∧(∀ a,lp=some a→W.heap.size≤a.block)∧(∀ a,wp=some a→W.heap.size≤a.block)
theorem results_pg1 {fn:Func} (h:fn.results=#[.cell 2 26]) (tmps:Array Value) (W:World) (R:Nat) (C:Array Value) (hp:tmps.getD 2 undef=.pointer (some ⟨R,0,none⟩))
 (hB:W.heap[R]?=some (.cells C 26 (0,0))) (hC:C.size=10):(results fn tmps).run Tryz.prog W=.ok (.agg C) W :=
 results_cell_row h tmps _ R 26 C (0,0) _ hp hB Tryz.underlying26 rfl (by rw [hC];kernel_rfl)
theorem copy_p2 (k od po:Int) (lp:Option Addr) (ln lcp:Nat) (tp:Option Addr) (tn tcp:Nat) (wp:Option Addr) (wn wcp:Nat) (sk fr to q:Int) (L:List Ln) (T:List Tk) (M:List Ln) (W:World) (hP:PgM W lp ln lcp L tp tn tcp T wp wn wcp M) (h1:ln≤1000∧tn≤1000∧wn≤1000) :
 Calls Tryz.prog 58 #[.agg #[.int .u8 k,.int .u32 od,.int .u8 po,.slice lp ln lcp,.slice tp tn tcp,.slice wp wn wcp,.int .u8 sk,.int .u8 fr,.int .u8 to,.int .i64 q]] W (GivesC2 W ⟨k,od,po,L,T,M,sk,fr,to,q⟩):=by
 obtain⟨N,hN⟩:∃ N,W.heap.size=N:=⟨_,rfl⟩
 obtain⟨W2,hW2,hs2,hx2,hr2,hb2⟩:∃ W2,(W.alloc (.cells #[.int .u8 k,.int .u32 od,.int .u8 po,.slice lp ln lcp,.slice tp tn tcp,.slice wp wn wcp,.int .u8 sk,.int .u8 fr,.int .u8 to,.int .i64 q] 26)).alloc (.cells zc 26)=W2∧W2.heap.size=N+2∧W2.heap[N]?=some (.cells #[.int .u8 k,.int .u32 od,.int .u8 po,.slice lp ln lcp,.slice tp tn tcp,.slice wp wn wcp,.int .u8 sk,.int .u8 fr,.int .u8 to,.int .i64 q] 26 (0,0))∧W2.heap[N+1]?=some (.cells zc 26 (0,0))∧Below W.heap.size W W2:=⟨_,rfl,by simp [hN],by rw [← hN];exact (Below.heap_alloc _ _ _ (by simp)).trans (z0c W _),by have:=z0c (W.alloc (.cells #[.int .u8 k,.int .u32 od,.int .u8 po,.slice lp ln lcp,.slice tp tn tcp,.slice wp wn wcp,.int .u8 sk,.int .u8 fr,.int .u8 to,.int .i64 q] 26)) (.cells zc 26);rwa [World.size_alloc,hN] at this,((Below.refl _ _).alloc (Nat.le_refl _) _).alloc (by simp) _⟩
 have HW2:=hid hW2
 have HX2:=hid hx2
 have HR2:=hid hr2
 have HB2:=hid hb2
 have HP2:=hid (hP.later hb2)
 have HP:=hid hP
 have HS2:=hid hs2
 have HN:=hid hN
 have HLT:=hid (show ∀ (p:Option Addr) (a:Addr),p=some a→True from fun _ _ _=>trivial)
 have e1:=hP.l.len
 have e2:=hP.t.len
 have e3:=hP.o.len
 have HE1:=hid e1
 have HE2:=hid e2
 have HE3:=hid e3
 have hcl:=q0k lp ln lcp L W2 HP2.out.l (by omega)
 clear hW2 hx2 hr2 hb2 hs2 hP e1 e2 e3 hN
 go_enter Tryz.func58,Tryz.ntmps58
 go_upto_region 1 with (fail)
 rw [HW2.out,HN.out]
 have c3:=z0a (j:=3) HX2.out rfl
 go_wp2_with fail
 refine hcl.mono ?_
 rintro e w3 ⟨v3,rfl,hf⟩
 obtain⟨pl,cl,rfl,hsl,hab⟩:=SlG.of_own (d:=l0) z9a (by decide) hf.own
 rw [HE1.out] at hsl ⊢
 have HX3:=hid (z0b HX2.out hf.below)
 have HR3:=hid (z0b HR2.out hf.below)
 have HB3:=hid (HB2.out.trans (hf.below.mono HB2.out.size))
 have HF3:=hid hf.below
 have HAL:Hid (∀ a,pl=some a→N+2≤a.block):=hid fun a ha=>by have:=hab a ha;have:=HS2.out;omega
 have HLL3:=hid hsl
 have HZ3:Hid (N+2≤w3.heap.size):=hid (by have:=HF3.out.size;have:=HS2.out;omega)
 clear c3 hcl hf hsl hab
 have c3:=z0a (j:=3) HX3.out rfl
 have f3:=z0o (j:=3) HX3.out
 go_upto_region 2 with (fail)
 have HX4:Hid ((w3.setCell ⟨N,3,none⟩ (.slice pl ln cl)).heap[N]?=some (.cells #[.int .u8 k,.int .u32 od,.int .u8 po,.slice pl ln cl,.slice tp tn tcp,.slice wp wn wcp,.int .u8 sk,.int .u8 fr,.int .u8 to,.int .i64 q] 26 (0,0))):=hid (z0u 3 (.slice pl ln cl) HX3.out)
 have HR4:Hid ((w3.setCell ⟨N,3,none⟩ (.slice pl ln cl)).heap[N+1]?=some (.cells zc 26 (0,0))):=hid ((Below.heap_setCell _ _ _ _ (by show N+1≠N;omega)).trans HR3.out)
 have HB4:=hid (HB3.out.setCell (p:=⟨N,3,none⟩) (by show W.heap.size≤N;have:=HN.out;omega) (.slice pl ln cl))
 have HLL4:=hid (z8d (Y:=N) (fun a ha=>by have:=HAL.out a ha;omega) HLL3.out 3 (.slice pl ln cl))
 have HZ4:Hid (N+2≤(w3.setCell ⟨N,3,none⟩ (.slice pl ln cl)).heap.size):=hid (by have:=HZ3.out;simpa [World.setCell] using this)
 clear c3 f3 HX3 HR3 HB3 HZ3 HLL3
 generalize w3.setCell ⟨N,3,none⟩ (.slice pl ln cl)=w4 at *
 have hcl:=clone_tk tp tn tcp T w4 ((HP.out.later HB4.out).t) (by omega)
 have c3:=z0a (j:=4) HX4.out rfl
 go_wp2_with fail
 refine hcl.mono ?_
 rintro e w5 ⟨v,rfl,hf⟩
 obtain⟨pt,ct,rfl,hsl,hab⟩:=SlG.of_own (d:=tk0) q0x (by decide) hf.own
 have how:=z2a hf.own
 rw [HE2.out] at how
 rw [HE2.out] at hsl ⊢
 have HX5:=hid (z0b HX4.out hf.below)
 have HR5:=hid (z0b HR4.out hf.below)
 have HB5:=hid (HB4.out.trans (hf.below.mono HB4.out.size))
 have HAT:Hid (∀ a,pt=some a→N+2≤a.block):=hid fun a ha=>by have:=hab a ha;have:=HZ4.out;omega
 have HZ5:Hid (N+2≤w5.heap.size):=hid (Nat.le_trans HZ4.out hf.below.size)
 have HTT5:=hid hsl
 have HOW5:=hid how
 have HOB:Hid (∀ b,(Value.slice pt tn ct).ownBlock=some b→¬ b=N):=hid fun b hb=>by
  cases pt with
  | none=>simp [Value.ownBlock] at hb
  | some a=>have:=HAT.out a rfl;simp [Value.ownBlock] at hb;omega
 clear how
 have HLL5:=hid (HLL4.out.later hf.below)
 clear c3 hcl hf hsl hab
 have c3:=z0a (j:=4) HX5.out rfl
 have f3:=z0o 4 HX5.out
 go_upto_region 3 with (fail)
 have HX6:Hid ((w5.setCell ⟨N,4,none⟩ (.slice pt tn ct)).heap[N]?=some (.cells #[.int .u8 k,.int .u32 od,.int .u8 po,.slice pl ln cl,.slice pt tn ct,.slice wp wn wcp,.int .u8 sk,.int .u8 fr,.int .u8 to,.int .i64 q] 26 (0,0))):=hid (z0u 4 (.slice pt tn ct) HX5.out)
 have HR6:Hid ((w5.setCell ⟨N,4,none⟩ (.slice pt tn ct)).heap[N+1]?=some (.cells zc 26 (0,0))):=hid ((Below.heap_setCell _ _ _ _ (by show N+1≠N;omega)).trans HR5.out)
 have HB6:=hid (HB5.out.setCell (p:=⟨N,4,none⟩) (by show W.heap.size≤N;have:=HN.out;omega) (.slice pt tn ct))
 have HLL6:=hid (z8d (Y:=N) (fun a ha=>by have:=HAL.out a ha;omega) HLL5.out 4 (.slice pt tn ct))
 have HTT6:=hid (z8d (Y:=N) (fun a ha=>by have:=HAT.out a ha;omega) HTT5.out 4 (.slice pt tn ct))
 have HOW6:=hid (z0x HOW5.out ((Chg.refl (fun k=>k=N) _).setCell ⟨N,4,none⟩ (.slice pt tn ct) fun _=>rfl) fun b hb=>HOB.out b hb)
 have HZ6:Hid (N+2≤(w5.setCell ⟨N,4,none⟩ (.slice pt tn ct)).heap.size):=hid (by have:=HZ5.out;simpa [World.setCell] using this)
 clear c3 f3 HX5 HR5 HB5 HZ5 HLL5 HTT5 HOW5
 generalize w5.setCell ⟨N,4,none⟩ (.slice pt tn ct)=w6 at *
 have hcl:=q0k wp wn wcp M w6 ((HP.out.later HB6.out).o) (by omega)
 have c3:=z0a (j:=5) HX6.out rfl
 go_wp2_with fail
 refine hcl.mono ?_
 rintro e w7 ⟨v,rfl,hf⟩
 obtain⟨pw,cw,rfl,hsl,hab⟩:=SlG.of_own (d:=l0) z9a (by decide) hf.own
 rw [HE3.out] at hsl ⊢
 have HX7:=hid (z0b HX6.out hf.below)
 have HR7:=hid (z0b HR6.out hf.below)
 have HB7:=hid (HB6.out.trans (hf.below.mono HB6.out.size))
 have HAM:Hid (∀ a,pw=some a→N+2≤a.block):=hid fun a ha=>by have:=hab a ha;have:=HZ6.out;omega
 have HZ7:Hid (N+2≤w7.heap.size):=hid (Nat.le_trans HZ6.out hf.below.size)
 have HMM7:=hid hsl
 have HLL7:=hid (HLL6.out.later hf.below)
 have HTT7:=hid (HTT6.out.later hf.below)
 have HOW7:=hid (z0x HOW6.out (Chg.of_below (S:=fun _=>False) hf.below) fun _ _ h=>h)
 clear c3 hcl hf hsl hab
 have c3:=z0a (j:=5) HX7.out rfl
 have f3:=z0o 5 HX7.out
 go_upto_region 4 with (fail)
 have HX8:Hid ((w7.setCell ⟨N,5,none⟩ (.slice pw wn cw)).heap[N]?=some (.cells #[.int .u8 k,.int .u32 od,.int .u8 po,.slice pl ln cl,.slice pt tn ct,.slice pw wn cw,.int .u8 sk,.int .u8 fr,.int .u8 to,.int .i64 q] 26 (0,0))):=hid (z0u 5 (.slice pw wn cw) HX7.out)
 have HR8:Hid ((w7.setCell ⟨N,5,none⟩ (.slice pw wn cw)).heap[N+1]?=some (.cells zc 26 (0,0))):=hid ((Below.heap_setCell _ _ _ _ (by show N+1≠N;omega)).trans HR7.out)
 have HB8:=hid (HB7.out.setCell (p:=⟨N,5,none⟩) (by show W.heap.size≤N;have:=HN.out;omega) (.slice pw wn cw))
 have HLL8:=hid (z8d (Y:=N) (fun a ha=>by have:=HAL.out a ha;omega) HLL7.out 5 (.slice pw wn cw))
 have HTT8:=hid (z8d (Y:=N) (fun a ha=>by have:=HAT.out a ha;omega) HTT7.out 5 (.slice pw wn cw))
 have HMM8:=hid (z8d (Y:=N) (fun a ha=>by have:=HAM.out a ha;omega) HMM7.out 5 (.slice pw wn cw))
 have HOW8:=hid (z0x HOW7.out ((Chg.refl (fun k=>k=N) _).setCell ⟨N,5,none⟩ (.slice pw wn cw) fun _=>rfl) fun b hb=>HOB.out b hb)
 have HZ8:Hid (N+2≤(w7.setCell ⟨N,5,none⟩ (.slice pw wn cw)).heap.size):=hid (by have:=HZ7.out;simpa [World.setCell] using this)
 clear c3 f3 HX7 HR7 HB7 HZ7 HLL7 HTT7 HMM7 HOW7
 generalize w7.setCell ⟨N,5,none⟩ (.slice pw wn cw)=w8 at *
 obtain⟨a0,a1,a2,a3,a4,a5,a6,a7,a8,a9⟩:=z0d k od po pl ln cl pt tn ct pw wn cw sk fr to q HX8.out
 have hRlt:W.heap.size≤N+1:=by have:=HN.out;omega
 have HG:Hid (GivesC2 W ⟨k,od,po,L,T,M,sk,fr,to,q⟩ (.returned (.agg #[.int .u8 k,.int .u32 od,.int .u8 po,.slice pl ln cl,.slice pt tn ct,.slice pw wn cw,.int .u8 sk,.int .u8 fr,.int .u8 to,.int .i64 q])) (w8.setRow (N+1) #[.int .u8 k,.int .u32 od,.int .u8 po,.slice pl ln cl,.slice pt tn ct,.slice pw wn cw,.int .u8 sk,.int .u8 fr,.int .u8 to,.int .i64 q])):=hid (by
  have h1:=HE1.out
  have h2:=HE2.out
  have h3:=HE3.out
  subst h1 h2 h3
  refine⟨pl,cl,pt,ct,pw,cw,rfl,⟨?_,?_,?_⟩,?_,fun a ha=>?_,below_setRow HB8.out hRlt _,fun a ha=>?_,fun a ha=>?_⟩
  · exact HLL8.out.turn (by simp [World.setRow]) fun _ a ha _=>setRow_other _ _ _ _ (by have:=HAL.out a ha;omega)
  · exact HTT8.out.turn (by simp [World.setRow]) fun _ a ha _=>setRow_other _ _ _ _ (by have:=HAT.out a ha;omega)
  · exact HMM8.out.turn (by simp [World.setRow]) fun _ a ha _=>setRow_other _ _ _ _ (by have:=HAM.out a ha;omega)
  · refine z0x (S:=fun k=>k=N+1) HOW8.out ⟨rfl,rfl,rfl,by simp [World.setRow],fun k hk hn=>setRow_other _ _ _ _ hn⟩ fun b hb=>?_
    cases pt with
    | none=>simp [Value.ownBlock] at hb
    | some a=>have:=HAT.out a rfl;simp [Value.ownBlock] at hb;omega
  · have:=HAT.out a ha;have:=HN.out;omega
  · have:=HAL.out a ha;have:=HN.out;omega
  · have:=HAM.out a ha;have:=HN.out;omega)
 have HRF:=hid (setRow_heap w8 (N+1) _ #[.int .u8 k,.int .u32 od,.int .u8 po,.slice pl ln cl,.slice pt tn ct,.slice pw wn cw,.int .u8 sk,.int .u8 fr,.int .u8 to,.int .i64 q] _ _ HR8.out)
 go_wp2_with ((with_reducible refine wpList_store_pg k od po pl ln cl pt tn ct pw wn cw sk fr to q HR8.out ?_ ?_ ?_);rfl;rfl)
 (try simp only [Exit.inBlock,Exit.then])
 refine bodyPost_ret (v:=.agg #[.int .u8 k,.int .u32 od,.int .u8 po,.slice pl ln cl,.slice pt tn ct,.slice pw wn cw,.int .u8 sk,.int .u8 fr,.int .u8 to,.int .i64 q]) ?_ rfl HG.out
 exact results_pg1 rfl _ _ (N+1) _ rfl HRF.out rfl
def ptc (k:Int):Array Value:=#[.bool (kS k),.bool (kT k),.bool (kB k),.bool (kA k),.bool (kO k),.bool (kP k)]
abbrev pz:Array Value:=#[.bool false,.bool false,.bool false,.bool false,.bool false,.bool false]
theorem z0h (C:Array Value) (hC:C.size=6) (h1:C.all (·.oneCell')=true) {ops:Array Oper} {rest:List Oper} {a:Act} {w:World} {Q:Exit→Act→World→Prop} {dst:Option Tmp} {x y:Operand} {ty:TypeId} {pos:String} {after:Array Edge} {B:Nat} (hB:w.heap[B]?=some (.cells pz 117 (0,0)))
 (hx:a.eval x=.pointer (some ⟨B,0,none⟩)) (hy:a.eval y=.agg C)
 (h:wpList Tryz.prog ops Q rest (a.put dst undef) (w.setRow B C)):wpList Tryz.prog ops Q (Oper.mk dst (.store 117 x y) ty pos after none::rest) a w :=
 wpList_store_row rfl 117 x y rfl B C hx hy 117 pz hB (by rw [hC];kernel_rfl) (by rw [hC];rfl) h1 h
theorem z1z {fn:Func} (h:fn.results=#[.cell 2 117,.tmp 3]) (tmps:Array Value) (W:World) (R:Nat) (C:Array Value) (v:Value) (hp:tmps.getD 2 undef=.pointer (some ⟨R,0,none⟩)) (hv:tmps.getD 3 undef=v)
 (hB:W.heap[R]?=some (.cells C 117 (0,0))) (hC:C.size=6):(results fn tmps).run Tryz.prog W=.ok (.tuple #[.agg C,v]) W:=by
 rw [results_cell_tmp h,hp,hv]
 simp [asAddr,Result.andThen,run_loadVar_row W R 117 117 C (0,0) _ hB Tryz.underlying117 rfl (by rw [hC];kernel_rfl)]
def z1t (W:World) (k:Int) (e:Ending) (w':World):Prop:=e=.returned (.tuple #[.agg (ptc k),.bool (kOk k)])∧Below W.heap.size W w'
theorem z2q (k:Int) (W:World):Calls Tryz.prog 77 #[.int .u8 k] W (z1t W k):=by
 obtain⟨R,hR⟩:∃ R,W.heap.size=R:=⟨_,rfl⟩
 obtain⟨W0,hW0,hr0,hb0⟩:∃ W0,W.alloc (.cells pz 117)=W0∧W0.heap[R]?=some (.cells pz 117 (0,0))∧Below W.heap.size W W0:=⟨_,rfl,by rw [← hR];exact z0c W _,(Below.refl _ _).alloc (Nat.le_refl _) _⟩
 have HRE:=hid hR
 have HW0:=hid hW0
 have HR0:=hid hr0
 have HB0:=hid hb0
 have HLE:Hid (W.heap.size≤R):=hid (by omega)
 clear hR hW0 hr0 hb0
 by_cases h1:k=1
 case pos =>
  subst h1
  have HF:=hid (setRow_heap W0 R _ #[.bool true,.bool false,.bool false,.bool false,.bool false,.bool true] _ _ HR0.out)
  have HS6:Hid ((#[.bool true,.bool false,.bool false,.bool false,.bool false,.bool true]:Array Value).size=6):=hid rfl
  have HA6:Hid ((#[.bool true,.bool false,.bool false,.bool false,.bool false,.bool true]:Array Value).all (·.oneCell')=true):=hid (by simp [Value.oneCell'])
  have HG:Hid (z1t W 1 (.returned (.tuple #[.agg #[.bool true,.bool false,.bool false,.bool false,.bool false,.bool true],.bool true])) (W0.setRow R #[.bool true,.bool false,.bool false,.bool false,.bool false,.bool true])):=hid ⟨rfl,below_setRow HB0.out HLE.out #[.bool true,.bool false,.bool false,.bool false,.bool false,.bool true]⟩
  go_enter Tryz.func77,Tryz.ntmps77
  go_upto_region 1 with (fail)
  rw [HW0.out,HRE.out]
  go_wp2_with ((with_reducible refine z0h #[.bool true,.bool false,.bool false,.bool false,.bool false,.bool true] HS6.out HA6.out HR0.out ?_ ?_ ?_);rfl;rfl)
  (try simp only [Exit.inBlock,Exit.then])
  refine bodyPost_ret (v:=.tuple #[.agg #[.bool true,.bool false,.bool false,.bool false,.bool false,.bool true],.bool true]) ?_ rfl HG.out
  exact z1z rfl _ _ R #[.bool true,.bool false,.bool false,.bool false,.bool false,.bool true] _ rfl rfl HF.out rfl
 by_cases h2:k=2
 case pos =>
  subst h2
  clear h1
  have HF:=hid (setRow_heap W0 R _ #[.bool true,.bool true,.bool true,.bool false,.bool false,.bool false] _ _ HR0.out)
  have HS6:Hid ((#[.bool true,.bool true,.bool true,.bool false,.bool false,.bool false]:Array Value).size=6):=hid rfl
  have HA6:Hid ((#[.bool true,.bool true,.bool true,.bool false,.bool false,.bool false]:Array Value).all (·.oneCell')=true):=hid (by simp [Value.oneCell'])
  have HG:Hid (z1t W 2 (.returned (.tuple #[.agg #[.bool true,.bool true,.bool true,.bool false,.bool false,.bool false],.bool true])) (W0.setRow R #[.bool true,.bool true,.bool true,.bool false,.bool false,.bool false])):=hid ⟨rfl,below_setRow HB0.out HLE.out #[.bool true,.bool true,.bool true,.bool false,.bool false,.bool false]⟩
  go_enter Tryz.func77,Tryz.ntmps77
  go_upto_region 1 with (fail)
  rw [HW0.out,HRE.out]
  go_wp2_with ((with_reducible refine z0h #[.bool true,.bool true,.bool true,.bool false,.bool false,.bool false] HS6.out HA6.out HR0.out ?_ ?_ ?_);rfl;rfl)
  (try simp only [Exit.inBlock,Exit.then])
  refine bodyPost_ret (v:=.tuple #[.agg #[.bool true,.bool true,.bool true,.bool false,.bool false,.bool false],.bool true]) ?_ rfl HG.out
  exact z1z rfl _ _ R #[.bool true,.bool true,.bool true,.bool false,.bool false,.bool false] _ rfl rfl HF.out rfl
 by_cases h3:k=3
 case pos =>
  subst h3
  clear h1
  clear h2
  have HF:=hid (setRow_heap W0 R _ #[.bool false,.bool true,.bool false,.bool true,.bool false,.bool false] _ _ HR0.out)
  have HS6:Hid ((#[.bool false,.bool true,.bool false,.bool true,.bool false,.bool false]:Array Value).size=6):=hid rfl
  have HA6:Hid ((#[.bool false,.bool true,.bool false,.bool true,.bool false,.bool false]:Array Value).all (·.oneCell')=true):=hid (by simp [Value.oneCell'])
  have HG:Hid (z1t W 3 (.returned (.tuple #[.agg #[.bool false,.bool true,.bool false,.bool true,.bool false,.bool false],.bool true])) (W0.setRow R #[.bool false,.bool true,.bool false,.bool true,.bool false,.bool false])):=hid ⟨rfl,below_setRow HB0.out HLE.out #[.bool false,.bool true,.bool false,.bool true,.bool false,.bool false]⟩
  go_enter Tryz.func77,Tryz.ntmps77
  go_upto_region 1 with (fail)
  rw [HW0.out,HRE.out]
  go_wp2_with ((with_reducible refine z0h #[.bool false,.bool true,.bool false,.bool true,.bool false,.bool false] HS6.out HA6.out HR0.out ?_ ?_ ?_);rfl;rfl)
  (try simp only [Exit.inBlock,Exit.then])
  refine bodyPost_ret (v:=.tuple #[.agg #[.bool false,.bool true,.bool false,.bool true,.bool false,.bool false],.bool true]) ?_ rfl HG.out
  exact z1z rfl _ _ R #[.bool false,.bool true,.bool false,.bool true,.bool false,.bool false] _ rfl rfl HF.out rfl
 by_cases h4:k=4
 case pos =>
  subst h4
  clear h1
  clear h2
  clear h3
  have HF:=hid (setRow_heap W0 R _ #[.bool false,.bool true,.bool false,.bool false,.bool false,.bool false] _ _ HR0.out)
  have HS6:Hid ((#[.bool false,.bool true,.bool false,.bool false,.bool false,.bool false]:Array Value).size=6):=hid rfl
  have HA6:Hid ((#[.bool false,.bool true,.bool false,.bool false,.bool false,.bool false]:Array Value).all (·.oneCell')=true):=hid (by simp [Value.oneCell'])
  have HG:Hid (z1t W 4 (.returned (.tuple #[.agg #[.bool false,.bool true,.bool false,.bool false,.bool false,.bool false],.bool true])) (W0.setRow R #[.bool false,.bool true,.bool false,.bool false,.bool false,.bool false])):=hid ⟨rfl,below_setRow HB0.out HLE.out #[.bool false,.bool true,.bool false,.bool false,.bool false,.bool false]⟩
  go_enter Tryz.func77,Tryz.ntmps77
  go_upto_region 1 with (fail)
  rw [HW0.out,HRE.out]
  go_wp2_with ((with_reducible refine z0h #[.bool false,.bool true,.bool false,.bool false,.bool false,.bool false] HS6.out HA6.out HR0.out ?_ ?_ ?_);rfl;rfl)
  (try simp only [Exit.inBlock,Exit.then])
  refine bodyPost_ret (v:=.tuple #[.agg #[.bool false,.bool true,.bool false,.bool false,.bool false,.bool false],.bool true]) ?_ rfl HG.out
  exact z1z rfl _ _ R #[.bool false,.bool true,.bool false,.bool false,.bool false,.bool false] _ rfl rfl HF.out rfl
 by_cases h5:k=5
 case pos =>
  subst h5
  clear h1
  clear h2
  clear h3
  clear h4
  have HF:=hid (setRow_heap W0 R _ #[.bool false,.bool true,.bool false,.bool false,.bool false,.bool false] _ _ HR0.out)
  have HS6:Hid ((#[.bool false,.bool true,.bool false,.bool false,.bool false,.bool false]:Array Value).size=6):=hid rfl
  have HA6:Hid ((#[.bool false,.bool true,.bool false,.bool false,.bool false,.bool false]:Array Value).all (·.oneCell')=true):=hid (by simp [Value.oneCell'])
  have HG:Hid (z1t W 5 (.returned (.tuple #[.agg #[.bool false,.bool true,.bool false,.bool false,.bool false,.bool false],.bool true])) (W0.setRow R #[.bool false,.bool true,.bool false,.bool false,.bool false,.bool false])):=hid ⟨rfl,below_setRow HB0.out HLE.out #[.bool false,.bool true,.bool false,.bool false,.bool false,.bool false]⟩
  go_enter Tryz.func77,Tryz.ntmps77
  go_upto_region 1 with (fail)
  rw [HW0.out,HRE.out]
  go_wp2_with ((with_reducible refine z0h #[.bool false,.bool true,.bool false,.bool false,.bool false,.bool false] HS6.out HA6.out HR0.out ?_ ?_ ?_);rfl;rfl)
  (try simp only [Exit.inBlock,Exit.then])
  refine bodyPost_ret (v:=.tuple #[.agg #[.bool false,.bool true,.bool false,.bool false,.bool false,.bool false],.bool true]) ?_ rfl HG.out
  exact z1z rfl _ _ R #[.bool false,.bool true,.bool false,.bool false,.bool false,.bool false] _ rfl rfl HF.out rfl
 by_cases h6:k=6
 case pos =>
  subst h6
  clear h1
  clear h2
  clear h3
  clear h4
  clear h5
  have HF:=hid (setRow_heap W0 R _ #[.bool false,.bool true,.bool false,.bool true,.bool false,.bool false] _ _ HR0.out)
  have HS6:Hid ((#[.bool false,.bool true,.bool false,.bool true,.bool false,.bool false]:Array Value).size=6):=hid rfl
  have HA6:Hid ((#[.bool false,.bool true,.bool false,.bool true,.bool false,.bool false]:Array Value).all (·.oneCell')=true):=hid (by simp [Value.oneCell'])
  have HG:Hid (z1t W 6 (.returned (.tuple #[.agg #[.bool false,.bool true,.bool false,.bool true,.bool false,.bool false],.bool true])) (W0.setRow R #[.bool false,.bool true,.bool false,.bool true,.bool false,.bool false])):=hid ⟨rfl,below_setRow HB0.out HLE.out #[.bool false,.bool true,.bool false,.bool true,.bool false,.bool false]⟩
  go_enter Tryz.func77,Tryz.ntmps77
  go_upto_region 1 with (fail)
  rw [HW0.out,HRE.out]
  go_wp2_with ((with_reducible refine z0h #[.bool false,.bool true,.bool false,.bool true,.bool false,.bool false] HS6.out HA6.out HR0.out ?_ ?_ ?_);rfl;rfl)
  (try simp only [Exit.inBlock,Exit.then])
  refine bodyPost_ret (v:=.tuple #[.agg #[.bool false,.bool true,.bool false,.bool true,.bool false,.bool false],.bool true]) ?_ rfl HG.out
  exact z1z rfl _ _ R #[.bool false,.bool true,.bool false,.bool true,.bool false,.bool false] _ rfl rfl HF.out rfl
 by_cases h7:k=7
 case pos =>
  subst h7
  clear h1
  clear h2
  clear h3
  clear h4
  clear h5
  clear h6
  have HF:=hid (setRow_heap W0 R _ #[.bool false,.bool true,.bool false,.bool false,.bool false,.bool false] _ _ HR0.out)
  have HS6:Hid ((#[.bool false,.bool true,.bool false,.bool false,.bool false,.bool false]:Array Value).size=6):=hid rfl
  have HA6:Hid ((#[.bool false,.bool true,.bool false,.bool false,.bool false,.bool false]:Array Value).all (·.oneCell')=true):=hid (by simp [Value.oneCell'])
  have HG:Hid (z1t W 7 (.returned (.tuple #[.agg #[.bool false,.bool true,.bool false,.bool false,.bool false,.bool false],.bool true])) (W0.setRow R #[.bool false,.bool true,.bool false,.bool false,.bool false,.bool false])):=hid ⟨rfl,below_setRow HB0.out HLE.out #[.bool false,.bool true,.bool false,.bool false,.bool false,.bool false]⟩
  go_enter Tryz.func77,Tryz.ntmps77
  go_upto_region 1 with (fail)
  rw [HW0.out,HRE.out]
  go_wp2_with ((with_reducible refine z0h #[.bool false,.bool true,.bool false,.bool false,.bool false,.bool false] HS6.out HA6.out HR0.out ?_ ?_ ?_);rfl;rfl)
  (try simp only [Exit.inBlock,Exit.then])
  refine bodyPost_ret (v:=.tuple #[.agg #[.bool false,.bool true,.bool false,.bool false,.bool false,.bool false],.bool true]) ?_ rfl HG.out
  exact z1z rfl _ _ R #[.bool false,.bool true,.bool false,.bool false,.bool false,.bool false] _ rfl rfl HF.out rfl
 by_cases h8:k=8
 case pos =>
  subst h8
  clear h1
  clear h2
  clear h3
  clear h4
  clear h5
  clear h6
  clear h7
  have HF:=hid (setRow_heap W0 R _ #[.bool true,.bool false,.bool false,.bool false,.bool false,.bool false] _ _ HR0.out)
  have HS6:Hid ((#[.bool true,.bool false,.bool false,.bool false,.bool false,.bool false]:Array Value).size=6):=hid rfl
  have HA6:Hid ((#[.bool true,.bool false,.bool false,.bool false,.bool false,.bool false]:Array Value).all (·.oneCell')=true):=hid (by simp [Value.oneCell'])
  have HG:Hid (z1t W 8 (.returned (.tuple #[.agg #[.bool true,.bool false,.bool false,.bool false,.bool false,.bool false],.bool true])) (W0.setRow R #[.bool true,.bool false,.bool false,.bool false,.bool false,.bool false])):=hid ⟨rfl,below_setRow HB0.out HLE.out #[.bool true,.bool false,.bool false,.bool false,.bool false,.bool false]⟩
  go_enter Tryz.func77,Tryz.ntmps77
  go_upto_region 1 with (fail)
  rw [HW0.out,HRE.out]
  go_wp2_with ((with_reducible refine z0h #[.bool true,.bool false,.bool false,.bool false,.bool false,.bool false] HS6.out HA6.out HR0.out ?_ ?_ ?_);rfl;rfl)
  (try simp only [Exit.inBlock,Exit.then])
  refine bodyPost_ret (v:=.tuple #[.agg #[.bool true,.bool false,.bool false,.bool false,.bool false,.bool false],.bool true]) ?_ rfl HG.out
  exact z1z rfl _ _ R #[.bool true,.bool false,.bool false,.bool false,.bool false,.bool false] _ rfl rfl HF.out rfl
 by_cases h9:k=9
 case pos =>
  subst h9
  clear h1
  clear h2
  clear h3
  clear h4
  clear h5
  clear h6
  clear h7
  clear h8
  have HF:=hid (setRow_heap W0 R _ #[.bool true,.bool false,.bool false,.bool false,.bool true,.bool false] _ _ HR0.out)
  have HS6:Hid ((#[.bool true,.bool false,.bool false,.bool false,.bool true,.bool false]:Array Value).size=6):=hid rfl
  have HA6:Hid ((#[.bool true,.bool false,.bool false,.bool false,.bool true,.bool false]:Array Value).all (·.oneCell')=true):=hid (by simp [Value.oneCell'])
  have HG:Hid (z1t W 9 (.returned (.tuple #[.agg #[.bool true,.bool false,.bool false,.bool false,.bool true,.bool false],.bool true])) (W0.setRow R #[.bool true,.bool false,.bool false,.bool false,.bool true,.bool false])):=hid ⟨rfl,below_setRow HB0.out HLE.out #[.bool true,.bool false,.bool false,.bool false,.bool true,.bool false]⟩
  go_enter Tryz.func77,Tryz.ntmps77
  go_upto_region 1 with (fail)
  rw [HW0.out,HRE.out]
  go_wp2_with ((with_reducible refine z0h #[.bool true,.bool false,.bool false,.bool false,.bool true,.bool false] HS6.out HA6.out HR0.out ?_ ?_ ?_);rfl;rfl)
  (try simp only [Exit.inBlock,Exit.then])
  refine bodyPost_ret (v:=.tuple #[.agg #[.bool true,.bool false,.bool false,.bool false,.bool true,.bool false],.bool true]) ?_ rfl HG.out
  exact z1z rfl _ _ R #[.bool true,.bool false,.bool false,.bool false,.bool true,.bool false] _ rfl rfl HF.out rfl
 have e1:(k==1)=false:=by simpa using h1
 have e2:(k==2)=false:=by simpa using h2
 have e3:(k==3)=false:=by simpa using h3
 have e4:(k==4)=false:=by simpa using h4
 have e5:(k==5)=false:=by simpa using h5
 have e6:(k==6)=false:=by simpa using h6
 have e7:(k==7)=false:=by simpa using h7
 have e8:(k==8)=false:=by simpa using h8
 have e9:(k==9)=false:=by simpa using h9
 have HK:Hid (ptc k=pz∧kOk k=false):=hid ⟨by unfold ptc kS kT kB kA kO kP;rw [e1,e2,e3,e4,e5,e6,e7,e8,e9];rfl,by unfold kOk;rw [e1,e2,e3,e4,e5,e6,e7,e8,e9];rfl⟩
 clear h1 h2 h3 h4 h5 h6 h7 h8 h9
 have HF:=hid (setRow_heap W0 R _ pz _ _ HR0.out)
 have HS6:Hid ((pz:Array Value).size=6):=hid rfl
 have HA6:Hid ((pz:Array Value).all (·.oneCell')=true):=hid (by simp [Value.oneCell'])
 have HG:Hid (z1t W k (.returned (.tuple #[.agg pz,.bool false])) (W0.setRow R pz)):=hid ⟨by rw [HK.out.1,HK.out.2],below_setRow HB0.out HLE.out pz⟩
 go_enter Tryz.func77,Tryz.ntmps77
 go_upto_region 1 with (fail)
 rw [HW0.out,HRE.out]
 go_wp2_with ((with_reducible refine z0h pz HS6.out HA6.out HR0.out ?_ ?_ ?_);rfl;rfl)
 (try simp only [Exit.inBlock,Exit.then])
 refine bodyPost_ret (v:=.tuple #[.agg pz,.bool false]) ?_ rfl HG.out
 exact z1z rfl _ _ R pz _ rfl rfl HF.out rfl
theorem z2n {ops:Array Oper} {rest:List Oper} {a:Act} {w:World} {Q:Exit→Act→World→Prop} {dst:Option Tmp} {x:Operand} {ty:TypeId} {pos:String} {after:Array Edge} {B:Nat} {r:Rv} (hC:RB w B r) (hx:a.eval x=.pointer (some ⟨B,5,none⟩))
 (h:wpList Tryz.prog ops Q rest (a.put dst (.agg #[.int .u8 r.ka,.int .u8 r.kb,.int .u8 r.kc])) w):wpList Tryz.prog ops Q (Oper.mk dst (.load 40 x) ty pos after none::rest) a w :=
 z2u rfl 40 x rfl B 5 hx 42 (rcs r) #[.int .u8 r.ka,.int .u8 r.kb,.int .u8 r.kc] (0,0) _ hC (by
  intro j hj
  have h3:j<3:=hj
  rcases (by omega:j=0∨j=1∨j=2) with rfl | rfl | rfl <;> rfl) Tryz.underlying40 rfl (by kernel_rfl) h
theorem gstep_any (h:Bool) (r:Rv) (W:World):Calls Tryz.prog 87 #[.bool h,.agg (rcs r)] W fun e w'=>e=.returned (.bool (z7s h r.st r.cp))∧Below W.heap.size W w':=by
 obtain⟨W1,hW1,hb1⟩:∃ W1,W.alloc (.cells (rcs r) 42)=W1∧Below W.heap.size W W1:=⟨_,rfl,(Below.refl _ _).alloc (Nat.le_refl _) _⟩
 obtain⟨B,hB⟩:∃ B,W.heap.size=B:=⟨_,rfl⟩
 have hrb:=RB.new W r
 rw [hW1,hB] at hrb
 have HX1:=hid hrb
 have HW1:=hid hW1
 have HB1:=hid hb1
 have HRE:=hid hB
 obtain⟨c0,c1,c2,c3,c4,c5,c6,c7,c8,c9⟩:=hrb.at
 clear hW1 hb1 hB hrb
 clear c0 c1 c2 c5 c6 c7 c8 c9
 generalize r.st=st at *
 generalize r.cp=cp at *
 cases h with
 | false =>
  cases hs:(st==0) with
  | false =>
   go_enter Tryz.func87,Tryz.ntmps87
   go_upto_region 1 with (fail)
   rw [HW1.out,HRE.out]
   go_wp2_with fail
   go_ret
   exact⟨by simp [z7s,hs],HB1.out⟩
  | true =>
   go_enter Tryz.func87,Tryz.ntmps87
   go_upto_region 1 with (fail)
   rw [HW1.out,HRE.out]
   go_wp2_with fail
   go_ret
   exact⟨by simp [z7s,hs],HB1.out⟩
 | true =>
  go_enter Tryz.func87,Tryz.ntmps87
  go_upto_region 1 with (fail)
  rw [HW1.out,HRE.out]
  go_wp2_with fail
  go_ret
  exact⟨by simp [z7s],HB1.out⟩
theorem gout_any (h:Bool) (r:Rv) (W:World):Calls Tryz.prog 89 #[.bool h,.agg (rcs r)] W fun e w'=>e=.returned (.bool (outB h r.o))∧Below W.heap.size W w':=by
 obtain⟨W1,hW1,hb1⟩:∃ W1,W.alloc (.cells (rcs r) 42)=W1∧Below W.heap.size W W1:=⟨_,rfl,(Below.refl _ _).alloc (Nat.le_refl _) _⟩
 obtain⟨B,hB⟩:∃ B,W.heap.size=B:=⟨_,rfl⟩
 have hrb:=RB.new W r
 rw [hW1,hB] at hrb
 have HX1:=hid hrb
 have HW1:=hid hW1
 have HB1:=hid hb1
 have HRE:=hid hB
 obtain⟨c0,c1,c2,c3,c4,c5,c6,c7,c8,c9⟩:=hrb.at
 clear hW1 hb1 hB hrb
 clear c0 c1 c2 c3 c4 c5 c6 c7 c8
 generalize r.o=o at *
 cases h with
 | false =>
  go_enter Tryz.func89,Tryz.ntmps89
  go_upto_region 1 with (fail)
  rw [HW1.out,HRE.out]
  go_wp2_with fail
  go_ret
  exact⟨by simp [outB],HB1.out⟩
 | true =>
  cases hs:(o==1) with
  | false =>
   go_enter Tryz.func89,Tryz.ntmps89
   go_upto_region 1 with (fail)
   rw [HW1.out,HRE.out]
   go_wp2_with fail
   go_ret
   exact⟨by simp [outB,hs],HB1.out⟩
  | true =>
   go_enter Tryz.func89,Tryz.ntmps89
   go_upto_region 1 with (fail)
   rw [HW1.out,HRE.out]
   go_wp2_with fail
   go_ret
   exact⟨by simp [outB,hs],HB1.out⟩
theorem gadd_any (h:Bool) (r:Rv) (hb:(0≤r.kb∧r.kb≤255)∧(0≤r.kc∧r.kc≤255)) (W:World):Calls Tryz.prog 88 #[.bool h,.agg (rcs r)] W fun e w'=>e=.returned (.bool (addB h (r.ka,r.kb,r.kc) r.d))∧Below W.heap.size W w':=by
 obtain⟨W1,hW1,hb1⟩:∃ W1,W.alloc (.cells (rcs r) 42)=W1∧Below W.heap.size W W1:=⟨_,rfl,(Below.refl _ _).alloc (Nat.le_refl _) _⟩
 obtain⟨B,hB⟩:∃ B,W.heap.size=B:=⟨_,rfl⟩
 have hrb:=RB.new W r
 rw [hW1,hB] at hrb
 have HX1:=hid hrb
 have HW1:=hid hW1
 have HB1:=hid hb1
 have HRE:=hid hB
 obtain⟨c0,c1,c2,c3,c4,c5,c6,c7,c8,c9⟩:=hrb.at
 clear hW1 hb1 hB hrb
 clear c0 c1 c2 c3 c4 c5 c6 c7 c9
 have hkg:=fun W=>good_any 4 4 r.ka r.kb r.kc hb.1 hb.2 W
 have hke:=fun w=>key_eql r.ka r.kb r.kc 0 0 0 w
 clear hb
 generalize hdd:r.d=d at *
 cases h with
 | false =>
  clear hkg
  have HA:Hid (addB false (r.ka,r.kb,r.kc) d=(decide (((r.ka,r.kb,r.kc):K)=(0,0,0)) && d==0)):=hid rfl
  generalize decide (((r.ka,r.kb,r.kc):K)=(0,0,0))=y at *
  cases y with
  | false =>
   go_enter Tryz.func88,Tryz.ntmps88
   go_upto_region 1 with (fail)
   rw [HW1.out,HRE.out]
   go_wp2_with ((with_reducible refine z2n HX1.out ?_ ?_);rfl)
   go_ret
   exact⟨by rw [HA.out];rfl,HB1.out⟩
  | true =>
   go_enter Tryz.func88,Tryz.ntmps88
   go_upto_region 1 with (fail)
   rw [HW1.out,HRE.out]
   go_wp2_with ((with_reducible refine z2n HX1.out ?_ ?_);rfl)
   go_ret
   exact⟨by rw [HA.out];rfl,HB1.out⟩
 | true =>
  clear hke
  have HA:Hid (addB true (r.ka,r.kb,r.kc) d=((z5o 4 4 r.ka r.kb r.kc && d != 0) && d != -9223372036854775808)):=hid rfl
  generalize z5o 4 4 r.ka r.kb r.kc=y at *
  cases y with
  | false =>
   go_enter Tryz.func88,Tryz.ntmps88
   go_upto_region 1 with (fail)
   rw [HW1.out,HRE.out]
   go_wp2_with ((with_reducible refine z2n HX1.out ?_ ?_);rfl)
   refine (hkg _).mono ?_
   rintro e w2 ⟨rfl,h2⟩
   have HB2:=hid (HB1.out.trans (h2.below.mono HB1.out.size))
   clear h2 c8
   go_wp2_with fail
   go_ret
   exact⟨by rw [HA.out];rfl,HB2.out⟩
  | true =>
   cases hz:(d != 0) with
   | false =>
    go_enter Tryz.func88,Tryz.ntmps88
    go_upto_region 1 with (fail)
    rw [HW1.out,HRE.out]
    go_wp2_with ((with_reducible refine z2n HX1.out ?_ ?_);rfl)
    refine (hkg _).mono ?_
    rintro e w2 ⟨rfl,h2⟩
    have HB2:=hid (HB1.out.trans (h2.below.mono HB1.out.size))
    have c8':w2.cell? ⟨B,8,none⟩=some (.int .i64 d):=by rw [← hdd];exact z0a (HX1.out.later h2.below) rfl
    clear h2 c8 hdd
    go_wp2_with fail
    go_ret
    exact⟨by rw [HA.out,hz];rfl,HB2.out⟩
   | true =>
    go_enter Tryz.func88,Tryz.ntmps88
    go_upto_region 1 with (fail)
    rw [HW1.out,HRE.out]
    go_wp2_with ((with_reducible refine z2n HX1.out ?_ ?_);rfl)
    refine (hkg _).mono ?_
    rintro e w2 ⟨rfl,h2⟩
    have HB2:=hid (HB1.out.trans (h2.below.mono HB1.out.size))
    have c8':w2.cell? ⟨B,8,none⟩=some (.int .i64 d):=by rw [← hdd];exact z0a (HX1.out.later h2.below) rfl
    clear h2 c8 hdd
    go_wp2_with fail
    go_ret
    exact⟨by rw [HA.out,hz];rfl,HB2.out⟩
theorem gprog_any (h:Bool) (r:Rv) (L:List Ln) (T:List Tk) (M:List Ln) (W:World) (hw:Words W) (hP:RvM W r L T M) (hok:Pgok (r.pg L T M)) (h1:r.ln≤400∧r.tn≤400∧r.wn≤400):Calls Tryz.prog 90 #[.bool h,.agg (rcs r)] W fun e w'=>e=.returned (.bool (z8g h (r.pg L T M)))∧Below W.heap.size W w':=by
 obtain⟨W1,hW1,hb1⟩:∃ W1,W.alloc (.cells (rcs r) 42)=W1∧Below W.heap.size W W1:=⟨_,rfl,(Below.refl _ _).alloc (Nat.le_refl _) _⟩
 obtain⟨B,hB⟩:∃ B,W.heap.size=B:=⟨_,rfl⟩
 have hrb:=RB.new W r
 rw [hW1,hB] at hrb
 have HX1:=hid hrb
 have HW1:=hid hW1
 have HB1:=hid hb1
 have HRE:=hid hB
 obtain⟨c0,c1,c2,c3,c4,c5,c6,c7,c8,c9⟩:=hrb.at
 clear hW1 hb1 hB hrb
 clear c0 c1 c2 c3 c4 c5 c6 c7 c8 c9
 have hs:=same_p r.pk r.od r.po r.lp r.ln r.lcp r.tp r.tn r.tcp r.wp r.wn r.wcp r.sk r.fr r.to r.q 0 0 0 none 0 0 none 0 0 none 0 0 0 0 0 0 L T M [] [] [] W1 (hP.later HB1.out) ⟨SlG.empty _,SlG.empty _,SlG.empty _⟩ ⟨by omega,by omega,by omega⟩ ⟨by omega,by omega,by omega⟩
 have hg:=z5v 4 4 r.pk r.od r.po r.lp r.ln r.lcp r.tp r.tn r.tcp r.wp r.wn r.wcp r.sk r.fr r.to r.q L T M W1 (hw.later HB1.out) (hP.later HB1.out) hok h1
 clear hw hP hok h1
 obtain⟨y,hy⟩:∃ y,decide ((⟨r.pk,r.od,r.po,L,T,M,r.sk,r.fr,r.to,r.q⟩:Pg)=⟨0,0,0,[],[],[],0,0,0,0⟩)=y:=⟨_,rfl⟩
 rw [hy] at hs
 have HA:Hid (z8g false (r.pg L T M)=y):=hid hy
 clear hy
 cases h with
 | false =>
  clear hg
  go_enter Tryz.func90,Tryz.ntmps90
  go_upto_region 1 with (fail)
  rw [HW1.out,HRE.out]
  go_wp2_with ((with_reducible refine z4g HX1.out ?_ ?_);rfl)
  refine hs.mono ?_
  rintro e w2 ⟨rfl,h2⟩
  have HB2:=hid (HB1.out.trans (h2.mono HB1.out.size))
  clear h2 hs
  go_wp2_with fail
  go_ret
  exact⟨by rw [HA.out];rfl,HB2.out⟩
 | true =>
  clear hs
  go_enter Tryz.func90,Tryz.ntmps90
  go_upto_region 1 with (fail)
  rw [HW1.out,HRE.out]
  go_wp2_with ((with_reducible refine z4g HX1.out ?_ ?_);rfl)
  refine hg.mono ?_
  rintro e w2 ⟨rfl,h2⟩
  have HB2:=hid (HB1.out.trans (h2.mono HB1.out.size))
  clear h2 hg
  go_wp2_with fail
  go_ret
  exact⟨rfl,HB2.out⟩
theorem z8j (r:Rv) (L:List Ln) (T:List Tk) (M:List Ln) (W:World) (hw:Words W) (hP:RvM W r L T M) (hok:Rxok (r.x L T M)) (h1:r.ln≤400∧r.tn≤400∧r.wn≤400):Calls Tryz.prog 57 #[.agg (rcs r)] W fun e w'=>e=.returned (.bool (z1j (r.x L T M)))∧Below W.heap.size W w':=by
 obtain⟨W1,hW1,hb1⟩:∃ W1,W.alloc (.cells (rcs r) 42)=W1∧Below W.heap.size W W1:=⟨_,rfl,(Below.refl _ _).alloc (Nat.le_refl _) _⟩
 obtain⟨B,hB⟩:∃ B,W.heap.size=B:=⟨_,rfl⟩
 have hrb:=RB.new W r
 rw [hW1,hB] at hrb
 have HX1:=hid hrb
 have HW1:=hid hW1
 have HB1:=hid hb1
 have HRE:=hid hB
 have c0:W1.cell? ⟨B,0,none⟩=some (.int .u8 r.k):=z0a hrb rfl
 clear hW1 hb1 hB hrb
 obtain⟨b0,hb0⟩:∃ b,kOk r.k=b:=⟨_,rfl⟩
 obtain⟨b1,hb1⟩:∃ b,kS r.k=b:=⟨_,rfl⟩
 obtain⟨b2,hb2⟩:∃ b,kT r.k=b:=⟨_,rfl⟩
 obtain⟨b3,hb3⟩:∃ b,kB r.k=b:=⟨_,rfl⟩
 obtain⟨b4,hb4⟩:∃ b,kA r.k=b:=⟨_,rfl⟩
 obtain⟨b5,hb5⟩:∃ b,kO r.k=b:=⟨_,rfl⟩
 obtain⟨b6,hb6⟩:∃ b,kP r.k=b:=⟨_,rfl⟩
 have hpt:ptc r.k=#[.bool b1,.bool b2,.bool b3,.bool b4,.bool b5,.bool b6]:=by unfold ptc;rw [hb1,hb2,hb3,hb4,hb5,hb6]
 have hpa:=z2q r.k W1
 unfold z1t at hpa
 rw [hpt,hb0] at hpa
 obtain⟨s,hs⟩:∃ y,z7s b3 r.st r.cp=y:=⟨_,rfl⟩
 obtain⟨a,ha⟩:∃ y,addB b4 (r.ka,r.kb,r.kc) r.d=y:=⟨_,rfl⟩
 obtain⟨o,ho⟩:∃ y,outB b5 r.o=y:=⟨_,rfl⟩
 obtain⟨p,hp⟩:∃ y,z8g b6 (r.pg L T M)=y:=⟨_,rfl⟩
 have HR:Hid (z1j (r.x L T M)=(b0 && (b1==(r.sg != 0)) && (b2==(r.tx != 0)) && s && a && o && p)):=hid (by
  rw [← hs,← ha,← ho,← hp,← hb0,← hb1,← hb2,← hb3,← hb4,← hb5,← hb6]
  rfl)
 have HCS:=hid (fun W=>gstep_any b3 r W)
 have HCA:=hid (fun W=>gadd_any b4 r ⟨hok.key.2.1,hok.key.2.2⟩ W)
 have HCO:=hid (fun W=>gout_any b5 r W)
 have HCP:=hid (fun W' (hb:Below W.heap.size W W')=>gprog_any b6 r L T M W' (hw.later hb) (hP.later hb) hok.pg h1)
 rw [hs] at HCS
 rw [ha] at HCA
 rw [ho] at HCO
 rw [hp] at HCP
 clear hpt hb0 hb1 hb2 hb3 hb4 hb5 hb6 hs ha ho hp hw hP hok h1
 go_enter Tryz.func57,Tryz.ntmps57
 go_upto_region 1 with (fail)
 rw [HW1.out,HRE.out]
 go_wp2_with fail
 refine hpa.mono ?_
 rintro e w2 ⟨rfl,h2⟩
 have HB2:=hid (HB1.out.trans (h2.mono HB1.out.size))
 have HX2:=hid (HX1.out.later h2)
 clear h2 hpa c0
 obtain⟨N2,hN2⟩:∃ n,w2.heap.size=n:=⟨_,rfl⟩
 obtain⟨w3,hwn,hxn,hbn⟩:∃ w3,(w2.alloc (.cells pz 117)).setRow N2 #[.bool b1,.bool b2,.bool b3,.bool b4,.bool b5,.bool b6]=w3∧w3.heap[N2]?=some (.cells #[.bool b1,.bool b2,.bool b3,.bool b4,.bool b5,.bool b6] 117 (0,0))∧Below w2.heap.size w2 w3:=⟨_,rfl,by rw [← hN2];exact setRow_heap _ _ _ _ _ _ (z0c w2 _),below_setRow ((Below.refl _ _).alloc (Nat.le_refl _) _) (by omega) _⟩
 have hx2:=z0c w2 (.cells pz 117)
 rw [hN2] at hx2
 have HPX:=hid hxn
 have HPZ:=hid hx2
 have HBN:=hid hbn
 have HWN:=hid hwn
 have HNN:=hid hN2
 have HS6:Hid ((#[.bool b1,.bool b2,.bool b3,.bool b4,.bool b5,.bool b6]:Array Value).size=6):=hid rfl
 have HA6:Hid ((#[.bool b1,.bool b2,.bool b3,.bool b4,.bool b5,.bool b6]:Array Value).all (·.oneCell')=true):=hid (by simp [Value.oneCell'])
 clear hx2 hxn hbn hwn hN2
 have HB3:=hid (HB2.out.trans (HBN.out.mono HB2.out.size))
 have HX3:=hid (HX2.out.later HBN.out)
 have gp:=z0b HPX.out (Below.refl _ _)
 have gx:=HX3.out.later (Below.refl _ _)
 have p0:w3.cell? ⟨N2,0,none⟩=some (.bool b1):=z0a gp rfl
 have p1:w3.cell? ⟨N2,1,none⟩=some (.bool b2):=z0a gp rfl
 have p2:w3.cell? ⟨N2,2,none⟩=some (.bool b3):=z0a gp rfl
 have p3:w3.cell? ⟨N2,3,none⟩=some (.bool b4):=z0a gp rfl
 have p4:w3.cell? ⟨N2,4,none⟩=some (.bool b5):=z0a gp rfl
 have p5:w3.cell? ⟨N2,5,none⟩=some (.bool b6):=z0a gp rfl
 have c1:w3.cell? ⟨B,1,none⟩=some (.int .u32 r.sg):=z0a gx rfl
 have c2:w3.cell? ⟨B,2,none⟩=some (.int .u32 r.tx):=z0a gx rfl
 have HGX:=hid gx
 clear gp gx
 cases b0
 case false =>
  go_wp2_with (first | ((try rw [HNN.out]);(with_reducible refine z0h #[.bool b1,.bool b2,.bool b3,.bool b4,.bool b5,.bool b6] HS6.out HA6.out HPZ.out ?_ ?_ ?_);rfl;rfl;rw [HWN.out]) | ((with_reducible refine z0w HGX.out ?_ ?_ ?_);rfl;rfl))
  go_ret
  exact⟨by rw [HR.out];rfl,HB3.out⟩
 cases hq1:(b1==(r.sg != 0))
 case false =>
  go_wp2_with (first | ((try rw [HNN.out]);(with_reducible refine z0h #[.bool b1,.bool b2,.bool b3,.bool b4,.bool b5,.bool b6] HS6.out HA6.out HPZ.out ?_ ?_ ?_);rfl;rfl;rw [HWN.out]) | ((with_reducible refine z0w HGX.out ?_ ?_ ?_);rfl;rfl))
  go_ret
  exact⟨by rw [HR.out,hq1];rfl,HB3.out⟩
 cases hq2:(b2==(r.tx != 0))
 case false =>
  go_wp2_with (first | ((try rw [HNN.out]);(with_reducible refine z0h #[.bool b1,.bool b2,.bool b3,.bool b4,.bool b5,.bool b6] HS6.out HA6.out HPZ.out ?_ ?_ ?_);rfl;rfl;rw [HWN.out]) | ((with_reducible refine z0w HGX.out ?_ ?_ ?_);rfl;rfl))
  go_ret
  exact⟨by rw [HR.out,hq1,hq2];rfl,HB3.out⟩
 have HQ:=hid (And.intro hq1 hq2)
 go_wp2_with (first | ((try rw [HNN.out]);(with_reducible refine z0h #[.bool b1,.bool b2,.bool b3,.bool b4,.bool b5,.bool b6] HS6.out HA6.out HPZ.out ?_ ?_ ?_);rfl;rfl;rw [HWN.out]) | ((with_reducible refine z0w HGX.out ?_ ?_ ?_);rfl;rfl))
 refine (HCS.out _).mono ?_
 rintro e w4 ⟨rfl,h4⟩
 have HB4:=hid (HB3.out.trans (h4.mono HB3.out.size))
 have HD4:Hid (Below w3.heap.size w3 w4):=hid h4
 clear h4
 clear p0 p1 p2 p3 p4 p5 c1 c2
 clear HGX
 have gp:=z0b HPX.out HD4.out
 have gx:=HX3.out.later HD4.out
 have p0:w4.cell? ⟨N2,0,none⟩=some (.bool b1):=z0a gp rfl
 have p1:w4.cell? ⟨N2,1,none⟩=some (.bool b2):=z0a gp rfl
 have p2:w4.cell? ⟨N2,2,none⟩=some (.bool b3):=z0a gp rfl
 have p3:w4.cell? ⟨N2,3,none⟩=some (.bool b4):=z0a gp rfl
 have p4:w4.cell? ⟨N2,4,none⟩=some (.bool b5):=z0a gp rfl
 have p5:w4.cell? ⟨N2,5,none⟩=some (.bool b6):=z0a gp rfl
 have c1:w4.cell? ⟨B,1,none⟩=some (.int .u32 r.sg):=z0a gx rfl
 have c2:w4.cell? ⟨B,2,none⟩=some (.int .u32 r.tx):=z0a gx rfl
 have HGX:=hid gx
 clear gp gx
 clear hq1 hq2
 cases s
 case false =>
  go_wp2_with ((with_reducible refine z0w HGX.out ?_ ?_ ?_);rfl;rfl)
  go_ret
  exact⟨by rw [HR.out,HQ.out.1,HQ.out.2];rfl,HB4.out⟩
 go_wp2_with ((with_reducible refine z0w HGX.out ?_ ?_ ?_);rfl;rfl)
 refine (HCA.out _).mono ?_
 rintro e w5 ⟨rfl,h5⟩
 have HB5:=hid (HB4.out.trans (h5.mono HB4.out.size))
 have HD5:Hid (Below w3.heap.size w3 w5):=hid (HD4.out.trans (h5.mono HD4.out.size))
 clear h5
 clear p0 p1 p2 p3 p4 p5 c1 c2
 clear HGX
 have gp:=z0b HPX.out HD5.out
 have gx:=HX3.out.later HD5.out
 have p0:w5.cell? ⟨N2,0,none⟩=some (.bool b1):=z0a gp rfl
 have p1:w5.cell? ⟨N2,1,none⟩=some (.bool b2):=z0a gp rfl
 have p2:w5.cell? ⟨N2,2,none⟩=some (.bool b3):=z0a gp rfl
 have p3:w5.cell? ⟨N2,3,none⟩=some (.bool b4):=z0a gp rfl
 have p4:w5.cell? ⟨N2,4,none⟩=some (.bool b5):=z0a gp rfl
 have p5:w5.cell? ⟨N2,5,none⟩=some (.bool b6):=z0a gp rfl
 have c1:w5.cell? ⟨B,1,none⟩=some (.int .u32 r.sg):=z0a gx rfl
 have c2:w5.cell? ⟨B,2,none⟩=some (.int .u32 r.tx):=z0a gx rfl
 have HGX:=hid gx
 clear gp gx
 cases a
 case false =>
  go_wp2_with ((with_reducible refine z0w HGX.out ?_ ?_ ?_);rfl;rfl)
  go_ret
  exact⟨by rw [HR.out,HQ.out.1,HQ.out.2];rfl,HB5.out⟩
 go_wp2_with ((with_reducible refine z0w HGX.out ?_ ?_ ?_);rfl;rfl)
 refine (HCO.out _).mono ?_
 rintro e w6 ⟨rfl,h6⟩
 have HB6:=hid (HB5.out.trans (h6.mono HB5.out.size))
 have HD6:Hid (Below w3.heap.size w3 w6):=hid (HD5.out.trans (h6.mono HD5.out.size))
 clear h6
 clear p0 p1 p2 p3 p4 p5 c1 c2
 clear HGX
 have gp:=z0b HPX.out HD6.out
 have gx:=HX3.out.later HD6.out
 have p0:w6.cell? ⟨N2,0,none⟩=some (.bool b1):=z0a gp rfl
 have p1:w6.cell? ⟨N2,1,none⟩=some (.bool b2):=z0a gp rfl
 have p2:w6.cell? ⟨N2,2,none⟩=some (.bool b3):=z0a gp rfl
 have p3:w6.cell? ⟨N2,3,none⟩=some (.bool b4):=z0a gp rfl
 have p4:w6.cell? ⟨N2,4,none⟩=some (.bool b5):=z0a gp rfl
 have p5:w6.cell? ⟨N2,5,none⟩=some (.bool b6):=z0a gp rfl
 have c1:w6.cell? ⟨B,1,none⟩=some (.int .u32 r.sg):=z0a gx rfl
 have c2:w6.cell? ⟨B,2,none⟩=some (.int .u32 r.tx):=z0a gx rfl
 have HGX:=hid gx
 clear gp gx
 cases o
 case false =>
  go_wp2_with ((with_reducible refine z0w HGX.out ?_ ?_ ?_);rfl;rfl)
  go_ret
  exact⟨by rw [HR.out,HQ.out.1,HQ.out.2];rfl,HB6.out⟩
 go_wp2_with ((with_reducible refine z0w HGX.out ?_ ?_ ?_);rfl;rfl)
 refine (HCP.out _ HB6.out).mono ?_
 rintro e w7 ⟨rfl,h7⟩
 have HB7:=hid (HB6.out.trans (h7.mono HB6.out.size))
 clear h7
 clear p0 p1 p2 p3 p4 p5 c1 c2
 go_wp2_with fail
 go_ret
 exact⟨by rw [HR.out,HQ.out.1,HQ.out.2];rfl,HB7.out⟩
end Go.Proofs.YtclbkfpbdidaiaaGreatDoor
