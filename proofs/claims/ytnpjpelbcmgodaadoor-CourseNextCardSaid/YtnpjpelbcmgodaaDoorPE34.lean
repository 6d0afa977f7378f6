import Derived.Test.YtnpjpelbcmgodaaDoorPE99
import Derived.Test.YtnpjpelbcmgodaaDoorPE33
namespace Go.Proofs.YtnpjpelbcmgodaaDoor
open Go.Lib (hid)
set_option maxHeartbeats 16000000
open Go.RowKit Go.ChangeShapes Go.WideShapes
set_option linter.unusedVariables false
set_option linter.unusedSimpArgs false
set_option maxRecDepth 10000
theorem z8c (c:Cv) (L:List Ln) (T:List Tk) (M:List Ln) (W:World) (hw:Words W) (hP:CvM W c L T M) (hok:Crok (c.x L T M)) (h1:c.p.ln≤400∧c.p.tn≤400∧c.p.wn≤400) (hg:z2d (c.x L T M)=true):Calls Tryd.prog 42 #[.agg (ccs c)] W fun e w'=>e=.returned (.tuple #[.int .i64 (z1k (c.x L T M)).1,.bool (z1k (c.x L T M)).2])∧Below W.heap.size W w':=by
 obtain⟨W1,hW1,hx,hb1⟩:∃ W1,W.alloc (.cells (ccs c) 28)=W1∧CB W1 W.heap.size c∧Below W.heap.size W W1:=⟨_,rfl,CB.new W c,(Below.refl _ _).alloc (Nat.le_refl _) _⟩
 obtain⟨B,hB⟩:∃ B,W.heap.size=B:=⟨_,rfl⟩
 rw [hB] at hx
 have HX:=hid hx
 have HW1:=hid hW1
 have HB1:=hid hb1
 have HRE:=hid hB
 have hl:=z3i hg hok.P
 obtain⟨_,_,g3,g4,_⟩:=z1q hg
 have g3':0≤c.st:=g3
 have g4':c.st≤lenC (c.x L T M):=g4
 have hwr:IntKind.i64.wrap (c.st-1)=c.st-1:=IntWalk.i64_in _ (by omega)
 have HS:Hid (∀ w',Below W1.heap.size W1 w'→Calls Tryd.prog 39 #[.agg (pcs c.p)] w' (GivesS w' (z0l (c.p.pg L T M)))):=hid fun w' hb=>z7b c.p.pk c.p.od c.p.po c.p.lp c.p.ln c.p.lcp c.p.tp c.p.tn c.p.tcp c.p.wp c.p.wn c.p.wcp c.p.sk c.p.fr c.p.to c.p.q L T M w' (hw.later (hb1.trans (hb.mono hb1.size))) ((hP.later hb1).later hb) hok.P h1
 have HT:Hid (z1k (c.x L T M)=if c.bk then (c.st-1,decide (0<c.st)) else (c.st,decide (c.st<((z0l (c.p.pg L T M)).length:Int)))):=hid rfl
 obtain⟨S,hS⟩:∃ S,z0l (c.p.pg L T M)=S:=⟨_,rfl⟩
 rw [hS] at HS HT
 have a11:=hx.at.2.1
 clear hW1 hx hb1 hB hS hw hP hok h1 hg g3 g4 g3' g4' hl
 cases hbk:c.bk
 · rw [hbk] at a11 HT
   have HT2:Hid (z1k (c.x L T M)=(c.st,decide (c.st<(S.length:Int)))):=hid HT.out
   clear HT
   go_enter Tryd.func42,Tryd.ntmps42
   go_upto_region 1 with (fail)
   rw [HW1.out,HRE.out]
   go_upto_region 3 with (fail)
   have hbd:Below W1.heap.size W1 W1.drew:=(Below.refl _ _).drew
   refine wp_region_held_drew (S:=fun w'=>Hid (Below W1.heap.size W1 w')) (by kernel_rfl) (hid hbd) (fun hHeld=>?_)
   clear hbd
   generalize W1.drew=Wd at *
   refine wpAnyH_take (i:=0) (oi:=⟨some 12,_,_,_,_,_⟩) (v:=.pointer (some ⟨B,12,none⟩)) rfl (by kernel_rfl) (by kernel_rfl) (by kernel_rfl) (fun _ _ _ h=>h) (Or.inl ⟨by rfl,fun w' hw'=>?_⟩) (by assumption) ?_
   · clear hHeld
     go_simp
   try simp only [Act.put,sIB,sCZ,sCS]
   refine wpAnyH_take (i:=1) (oi:=⟨some 13,_,_,_,_,_⟩) (v:=.int .i64 c.st) rfl (by kernel_rfl) (by kernel_rfl) (by kernel_rfl) (fun _ _ _ h=>h) (Or.inl ⟨by rfl,fun w' hw'=>?_⟩) (by assumption) ?_
   · have hcx:=(HX.out.later hw'.out).at.2.2.1
     clear hHeld hw'
     go_simp
   try simp only [Act.put,sIB,sCZ,sCS]
   refine wpAnyH_take (i:=2) (oi:=⟨some 14,_,_,_,_,_⟩) (v:=.pointer (some ⟨B,12,none⟩)) rfl (by kernel_rfl) (by kernel_rfl) (by kernel_rfl) (fun _ _ _ h=>h) (Or.inl ⟨by rfl,fun w' hw'=>?_⟩) (by assumption) ?_
   · clear hHeld
     go_simp
   try simp only [Act.put,sIB,sCZ,sCS]
   refine wpAnyH_take (i:=3) (oi:=⟨some 15,_,_,_,_,_⟩) (v:=.int .i64 c.st) rfl (by kernel_rfl) (by kernel_rfl) (by kernel_rfl) (fun _ _ _ h=>h) (Or.inl ⟨by rfl,fun w' hw'=>?_⟩) (by assumption) ?_
   · have hcx:=(HX.out.later hw'.out).at.2.2.1
     clear hHeld hw'
     go_simp
   try simp only [Act.put,sIB,sCZ,sCS]
   refine wpAnyH_take (i:=4) (oi:=⟨some 16,_,_,_,_,_⟩) (v:=.pointer (some ⟨B,1,none⟩)) rfl (by kernel_rfl) (by kernel_rfl) (by kernel_rfl) (fun _ _ _ h=>h) (Or.inl ⟨by rfl,fun w' hw'=>?_⟩) (by assumption) ?_
   · clear hHeld
     go_simp
   try simp only [Act.put,sIB,sCZ,sCS]
   refine wpAnyH_take (i:=5) (oi:=⟨some 17,_,_,_,_,_⟩) (v:=.agg (pcs c.p)) rfl (by kernel_rfl) (by kernel_rfl) (by kernel_rfl) (fun _ _ _ h=>h) (Or.inl ⟨by rfl,fun w' hw'=>z0p rfl (HX.out.later (Hid.out hw'))⟩) (by assumption) ?_
   try simp only [Act.put,sIB,sCZ,sCS]
   refine wpAnyH_ready (rs:=[6]) (by kernel_rfl) (by simp) (AllReadyH.cons rfl (fun K hK=>?_) (AllReadyH.nil))
   go_simp
   go_wp2_with fail
   refine (HS.out _ hHeld.out).mono ?_
   rintro e w3 ⟨p3,c3,H3,rfl,hs3,hb3⟩
   have hSN:Hid (Below W1.heap.size W1 w3):=hid (hHeld.out.trans (hb3.mono hHeld.out.size))
   clear hb3 hs3
   go_wp2_with fail
   refine hK.out _ _ hSN (fun hHeld2=>?_)
   try simp only [Act.put,sIB,sCZ,sCS]
   clear hSN hK K hHeld
   have hHeld:=hHeld2
   clear hHeld2
   refine wpAnyH_take (i:=7) (oi:=⟨some 19,_,_,_,_,_⟩) (v:=.int .i64 (S.length:Int)) rfl (by kernel_rfl) (by kernel_rfl) (by kernel_rfl) (fun _ _ _ h=>h) (Or.inl ⟨by rfl,fun w' hw'=>?_⟩) (by assumption) ?_
   · clear hHeld
     go_simp
   try simp only [Act.put,sIB,sCZ,sCS]
   refine wpAnyH_take (i:=8) (oi:=⟨some 20,_,_,_,_,_⟩) (v:=.bool (decide (c.st<(S.length:Int)))) rfl (by kernel_rfl) (by kernel_rfl) (by kernel_rfl) (fun _ _ _ h=>h) (Or.inl ⟨by rfl,fun w' hw'=>?_⟩) (by assumption) ?_
   · clear hHeld
     go_simp
   try simp only [Act.put,sIB,sCZ,sCS]
   refine wpAnyH_take (i:=9) (oi:=⟨some 2,_,_,_,_,_⟩) (v:=.int .i64 c.st) rfl (by kernel_rfl) (by kernel_rfl) (by kernel_rfl) (fun _ _ _ h=>h) (Or.inl ⟨by rfl,fun w' hw'=>?_⟩) (by assumption) ?_
   · clear hHeld
     go_simp
   try simp only [Act.put,sIB,sCZ,sCS]
   refine wpAnyH_take (i:=10) (oi:=⟨some 3,_,_,_,_,_⟩) (v:=.bool (decide (c.st<(S.length:Int)))) rfl (by kernel_rfl) (by kernel_rfl) (by kernel_rfl) (fun _ _ _ h=>h) (Or.inl ⟨by rfl,fun w' hw'=>?_⟩) (by assumption) ?_
   · clear hHeld
     go_simp
   try simp only [Act.put,sIB,sCZ,sCS]
   have hfin:=hHeld.out
   refine wpAnyH_done (by kernel_rfl) ?_ _
   clear hHeld
   go_wp2_with fail
   go_ret2
   exact⟨by rw [HT2.out];rfl,HB1.out.trans (hfin.mono HB1.out.size)⟩
 · rw [hbk] at a11 HT
   have HT2:Hid (z1k (c.x L T M)=(c.st-1,decide (0<c.st))):=hid HT.out
   clear HT HS
   go_enter Tryd.func42,Tryd.ntmps42
   go_upto_region 1 with (fail)
   rw [HW1.out,HRE.out]
   go_upto_region 2 with (fail)
   have hbd:Below W1.heap.size W1 W1.drew:=(Below.refl _ _).drew
   refine wp_region_held_drew (S:=fun w'=>Hid (Below W1.heap.size W1 w')) (by kernel_rfl) (hid hbd) (fun hHeld=>?_)
   clear hbd
   generalize W1.drew=Wd at *
   refine wpAnyH_take (i:=0) (oi:=⟨some 6,_,_,_,_,_⟩) (v:=.pointer (some ⟨B,12,none⟩)) rfl (by kernel_rfl) (by kernel_rfl) (by kernel_rfl) (fun _ _ _ h=>h) (Or.inl ⟨by rfl,fun w' hw'=>?_⟩) (by assumption) ?_
   · clear hHeld
     go_simp
   try simp only [Act.put,sIB,sCZ,sCS]
   refine wpAnyH_take (i:=1) (oi:=⟨some 7,_,_,_,_,_⟩) (v:=.int .i64 c.st) rfl (by kernel_rfl) (by kernel_rfl) (by kernel_rfl) (fun _ _ _ h=>h) (Or.inl ⟨by rfl,fun w' hw'=>?_⟩) (by assumption) ?_
   · have hcx:=(HX.out.later hw'.out).at.2.2.1
     clear hHeld hw'
     go_simp
   try simp only [Act.put,sIB,sCZ,sCS]
   refine wpAnyH_take (i:=2) (oi:=⟨some 8,_,_,_,_,_⟩) (v:=.int .i64 (c.st-1)) rfl (by kernel_rfl) (by kernel_rfl) (by kernel_rfl) (fun _ _ _ h=>h) (Or.inl ⟨by rfl,fun w' hw'=>?_⟩) (by assumption) ?_
   · clear hHeld
     go_simp
   try simp only [Act.put,sIB,sCZ,sCS]
   refine wpAnyH_take (i:=3) (oi:=⟨some 9,_,_,_,_,_⟩) (v:=.pointer (some ⟨B,12,none⟩)) rfl (by kernel_rfl) (by kernel_rfl) (by kernel_rfl) (fun _ _ _ h=>h) (Or.inl ⟨by rfl,fun w' hw'=>?_⟩) (by assumption) ?_
   · clear hHeld
     go_simp
   try simp only [Act.put,sIB,sCZ,sCS]
   refine wpAnyH_take (i:=4) (oi:=⟨some 10,_,_,_,_,_⟩) (v:=.int .i64 c.st) rfl (by kernel_rfl) (by kernel_rfl) (by kernel_rfl) (fun _ _ _ h=>h) (Or.inl ⟨by rfl,fun w' hw'=>?_⟩) (by assumption) ?_
   · have hcx:=(HX.out.later hw'.out).at.2.2.1
     clear hHeld hw'
     go_simp
   try simp only [Act.put,sIB,sCZ,sCS]
   refine wpAnyH_take (i:=5) (oi:=⟨some 11,_,_,_,_,_⟩) (v:=.bool (decide (0<c.st))) rfl (by kernel_rfl) (by kernel_rfl) (by kernel_rfl) (fun _ _ _ h=>h) (Or.inl ⟨by rfl,fun w' hw'=>?_⟩) (by assumption) ?_
   · clear hHeld
     go_simp
   try simp only [Act.put,sIB,sCZ,sCS]
   refine wpAnyH_take (i:=6) (oi:=⟨some 2,_,_,_,_,_⟩) (v:=.int .i64 (c.st-1)) rfl (by kernel_rfl) (by kernel_rfl) (by kernel_rfl) (fun _ _ _ h=>h) (Or.inl ⟨by rfl,fun w' hw'=>?_⟩) (by assumption) ?_
   · clear hHeld
     go_simp
   try simp only [Act.put,sIB,sCZ,sCS]
   refine wpAnyH_take (i:=7) (oi:=⟨some 3,_,_,_,_,_⟩) (v:=.bool (decide (0<c.st))) rfl (by kernel_rfl) (by kernel_rfl) (by kernel_rfl) (fun _ _ _ h=>h) (Or.inl ⟨by rfl,fun w' hw'=>?_⟩) (by assumption) ?_
   · clear hHeld
     go_simp
   try simp only [Act.put,sIB,sCZ,sCS]
   have hfin:=hHeld.out
   refine wpAnyH_done (by kernel_rfl) ?_ _
   clear hHeld
   go_wp2_with fail
   go_ret2
   exact⟨by rw [HT2.out];rfl,HB1.out.trans (hfin.mono HB1.out.size)⟩
theorem cr_outcome (c:Cv) (L:List Ln) (T:List Tk) (M:List Ln) (W:World):Calls Tryd.prog 43 #[.agg (ccs c)] W fun e w'=>e=.returned (.int .u8 (outC (c.x L T M)))∧Below W.heap.size W w':=by
 obtain⟨W1,hW1,hx,hb1⟩:∃ W1,W.alloc (.cells (ccs c) 28)=W1∧CB W1 W.heap.size c∧Below W.heap.size W W1:=⟨_,rfl,CB.new W c,(Below.refl _ _).alloc (Nat.le_refl _) _⟩
 obtain⟨B,hB⟩:∃ B,W.heap.size=B:=⟨_,rfl⟩
 rw [hB] at hx
 have HX:=hid hx
 have HW1:=hid hW1
 have HB1:=hid hb1
 have HRE:=hid hB
 have a11:=hx.at.2.1
 have HO:Hid (outC (c.x L T M)=if c.bk then 2 else 1):=hid rfl
 clear hW1 hx hb1 hB
 cases hbk:c.bk
 all_goals
  rw [hbk] at a11 HO
  go_enter Tryd.func43,Tryd.ntmps43
  go_upto_region 1 with (fail)
  rw [HW1.out,HRE.out]
  go_wp2_with fail
  go_ret
  exact⟨by rw [HO.out];rfl,HB1.out⟩
theorem cr_two (W:World) (c:Cv) (r:Rv):∃ W1,(W.alloc (.cells (ccs c) 28)).alloc (.cells (rcs r) 32)=W1∧CB W1 W.heap.size c∧RB W1 (W.heap.size+1) r∧Below W.heap.size W W1:=by
 have hb0:Below W.heap.size W (W.alloc (.cells (ccs c) 28)):=(Below.refl _ _).alloc (Nat.le_refl _) _
 have hs:(W.alloc (.cells (ccs c) 28)).heap.size=W.heap.size+1:=by simp only [World.alloc,Array.size_push]
 have hb1:Below (W.alloc (.cells (ccs c) 28)).heap.size (W.alloc (.cells (ccs c) 28)) ((W.alloc (.cells (ccs c) 28)).alloc (.cells (rcs r) 32)):=(Below.refl _ _).alloc (Nat.le_refl _) _
 refine⟨_,rfl,(CB.new W c).later hb1,?_,hb0.trans (hb1.mono hb0.size)⟩
 have h:=RB.new (W.alloc (.cells (ccs c) 28)) r
 rw [hs] at h
 exact h
theorem cr_fits (c:Cv) (L:List Ln) (T:List Tk) (M:List Ln) (W:World) (hw:Words W) (hP:CvM W c L T M) (hok:Crok (c.x L T M)) (h1:c.p.ln≤400∧c.p.tn≤400∧c.p.wn≤400) (hg:z2d (c.x L T M)=true) (r:Rv) (La:List Ln) (Ta:List Tk) (Ma:List Ln) (hst:0≤r.st∧r.st≤255):Calls Tryd.prog 33 #[.agg (ccs c),.agg (rcs r)] W fun e w'=>e=.returned (.bool (z7t (c.x L T M) (r.x La Ta Ma)))∧Below W.heap.size W w':=by
 obtain⟨W1,hW1,hx,hy,hb1⟩:∃ W1,(W.alloc (.cells (ccs c) 28)).alloc (.cells (rcs r) 32)=W1∧CB W1 W.heap.size c∧RB W1 (W.heap.size+1) r∧Below W.heap.size W W1:=cr_two W c r
 obtain⟨B,hB⟩:∃ B,W.heap.size=B:=⟨_,rfl⟩
 rw [hB] at hx hy
 have HX:=hid hx
 have HY:=hid hy
 have HW1:=hid hW1
 have HB1:=hid hb1
 have HRE:=hid hB
 have HTU:=hid (z8c c L T M W1 (hw.later hb1) (hP.later hb1) hok h1 hg)
 have HO:=hid (fun W=>cr_outcome c L T M W)
 have hwr:IntKind.i64.wrap r.st=r.st:=IntWalk.i64_in _ (by omega)
 have HF0:Hid (z7t (c.x L T M) (r.x La Ta Ma)=(if r.k=2 then ((r.sg==c.sg) && (c.tx==0)) && (z1k (c.x L T M)).2 && (r.cp==c.bk) && (r.st==(z1k (c.x L T M)).1)
 else if r.k=3∨r.k=6∨r.k=7 then (r.tx==c.tx)
 else if r.k=4 then (r.tx==c.tx) && (z1k (c.x L T M)).2
 else if r.k=5 then (r.tx==c.tx) && !c.bk && decide (c.tr<9223372036854775807)
 else if r.k=8 then ((r.sg==c.sg) && (c.tx==0)) && !c.bk
 else if r.k=9 then ((r.sg==c.sg) && (c.tx==0)) && !(z1k (c.x L T M)).2 && (r.o==outC (c.x L T M))
 else false)):=hid rfl
 generalize c.x L T M=X at *
 obtain⟨a,ha⟩:∃ a,(z1k X).1=a:=⟨_,rfl⟩
 obtain⟨ty,hty⟩:∃ a,(z1k X).2=a:=⟨_,rfl⟩
 obtain⟨o,ho⟩:∃ a,outC X=a:=⟨_,rfl⟩
 obtain⟨bt,hbt⟩:∃ a,((r.sg==c.sg) && (c.tx==0))=a:=⟨_,rfl⟩
 obtain⟨wi,hwi⟩:∃ a,(r.tx==c.tx)=a:=⟨_,rfl⟩
 rw [ha,hty,ho,hbt,hwi] at HF0
 rw [ha,hty] at HTU
 rw [ho] at HO
 generalize z7t X (r.x La Ta Ma)=F at *
 have HBT:=hid hbt
 have HWI:=hid hwi
 have e0:=hx.at.1
 have e14:=hx.at.2.2.2.2
 have f1:=hy.at.2.1
 have f2:=hy.at.2.2.1
 clear hW1 hx hy hb1 hB hw hP hok h1 hg ha hty ho hbt hwi hst
 go_enter Tryd.func33,Tryd.ntmps33
 go_upto_region 1 with (fail)
 rw [HW1.out,HRE.out]
 go_cut [5] from 9 (fun s5 wx=>s5=.bool bt∧wx=W1)
 case first =>
  cases q1:(r.sg==c.sg)
  all_goals
   go_wp2_with fail
   go_meet
   refine⟨?_,rfl⟩
   rw [← HBT.out,q1]
   rfl
 case rest =>
 obtain⟨rfl,rfl⟩:=hcut
 go_upto_region 3 with (fail)
 rw [HWI.out]
 clear e0 e14 f1 f2
 go_wp2_with ((with_reducible refine z0c HX.out ?_ ?_);rfl)
 refine HTU.out.mono ?_
 rintro e w2 ⟨rfl,h2⟩
 have HX2:=hid (HX.out.later h2)
 have HY2:=hid (HY.out.later h2)
 have HB2:=hid (HB1.out.trans (h2.mono HB1.out.size))
 clear h2 HX HY HTU
 have y0:=z0b (j:=0) HY2.out (v:=.int .u8 r.k) rfl
 go_upto_region 4 with (fail)
 have y3:=z0b (j:=3) HY2.out (v:=.int .u8 r.st) rfl
 have y4:=z0b (j:=4) HY2.out (v:=.bool r.cp) rfl
 have y9:=z0b (j:=9) HY2.out (v:=.int .u8 r.o) rfl
 have c11:=HX2.out.at.2.1
 have c13:=HX2.out.at.2.2.2.1
 by_cases hk:r.k=2
 · have HF:Hid (F=(bt && ty && (r.cp==c.bk) && (r.st==a))):=hid (by rw [HF0.out,hk];rfl)
   rw [hk] at y0
   clear hk HF0
   cases bt <;> cases ty <;> cases q:(r.cp==c.bk)
   all_goals
    go_wp2_with fail
    go_ret
    exact⟨by rw [HF.out];simp [*],HB2.out⟩
 by_cases hk:r.k=3
 · have HF:Hid (F=wi):=hid (by rw [HF0.out,hk];rfl)
   rw [hk] at y0
   clear hk HF0
   all_goals
    go_wp2_with fail
    go_ret
    exact⟨by rw [HF.out];simp [*],HB2.out⟩
 by_cases hk:r.k=6
 · have HF:Hid (F=wi):=hid (by rw [HF0.out,hk];rfl)
   rw [hk] at y0
   clear hk HF0
   all_goals
    go_wp2_with fail
    go_ret
    exact⟨by rw [HF.out];simp [*],HB2.out⟩
 by_cases hk:r.k=7
 · have HF:Hid (F=wi):=hid (by rw [HF0.out,hk];rfl)
   rw [hk] at y0
   clear hk HF0
   all_goals
    go_wp2_with fail
    go_ret
    exact⟨by rw [HF.out];simp [*],HB2.out⟩
 by_cases hk:r.k=4
 · have HF:Hid (F=(wi && ty)):=hid (by rw [HF0.out,hk];rfl)
   rw [hk] at y0
   clear hk HF0
   cases wi
   all_goals
    go_wp2_with fail
    go_ret
    exact⟨by rw [HF.out];simp [*],HB2.out⟩
 by_cases hk:r.k=5
 · have HF:Hid (F=(wi && !c.bk && decide (c.tr<9223372036854775807))):=hid (by rw [HF0.out,hk];rfl)
   rw [hk] at y0
   clear hk HF0
   cases wi <;> cases q:c.bk
   all_goals
    (try rw [q] at c11)
    go_wp2_with fail
    go_ret
    exact⟨by rw [HF.out];simp [*],HB2.out⟩
 by_cases hk:r.k=8
 · have HF:Hid (F=(bt && !c.bk)):=hid (by rw [HF0.out,hk];rfl)
   rw [hk] at y0
   clear hk HF0
   cases bt
   all_goals
    go_wp2_with fail
    go_ret
    exact⟨by rw [HF.out];simp [*],HB2.out⟩
 by_cases hk:r.k=9
 · have HF:Hid (F=(bt && !ty && (r.o==o))):=hid (by rw [HF0.out,hk];rfl)
   rw [hk] at y0
   clear hk HF0
   cases bt
   case false =>
    go_upto_region 18 with (fail)
    clear y0 y3 y4 y9 c11 c13
    have hbd:Below w2.heap.size w2 w2.drew:=(Below.refl _ _).drew
    refine wp_region_held_drew (S:=fun w'=>Hid (Below w2.heap.size w2 w')) (by kernel_rfl) (hid hbd) (fun hHeld=>?_)
    clear hbd
    generalize w2.drew=Wd at *
    refine wpAnyH_take (i:=0) (oi:=⟨some 85,_,_,_,_,_⟩) (v:=.bool false) rfl (by kernel_rfl) (by kernel_rfl) (by kernel_rfl) (fun _ _ _ h=>h) (Or.inl ⟨by rfl,fun w' hw'=>?_⟩) (by assumption) ?_
    · clear hHeld
      go_simp
    try simp only [Act.put,sIB,sCZ,sCS]
    refine wpAnyH_take (i:=1) (oi:=⟨some 86,_,_,_,_,_⟩) (v:=.bool false) rfl (by kernel_rfl) (by kernel_rfl) (by kernel_rfl) (fun _ _ _ h=>h) (Or.inl ⟨by rfl,fun w' hw'=>?_⟩) (by assumption) ?_
    · clear hHeld
      go_simp
    try simp only [Act.put,sIB,sCZ,sCS]
    refine wpAnyH_take (i:=2) (oi:=⟨some 87,_,_,_,_,_⟩) (v:=undef) rfl (by kernel_rfl) (by kernel_rfl) (by kernel_rfl) (fun _ _ _ h=>h) (Or.inr ⟨by rfl,rfl⟩) (by assumption) ?_
    try simp only [Act.put,sIB,sCZ,sCS]
    refine wpAnyH_take (i:=3) (oi:=⟨some 88,_,_,_,_,_⟩) (v:=undef) rfl (by kernel_rfl) (by kernel_rfl) (by kernel_rfl) (fun _ _ _ h=>h) (Or.inr ⟨by rfl,rfl⟩) (by assumption) ?_
    try simp only [Act.put,sIB,sCZ,sCS]
    refine wpAnyH_take (i:=4) (oi:=⟨some 89,_,_,_,_,_⟩) (v:=.bool false) rfl (by kernel_rfl) (by kernel_rfl) (by kernel_rfl) (fun _ _ _ h=>h) (Or.inl ⟨by rfl,fun w' hw'=>?_⟩) (by assumption) ?_
    · clear hHeld
      go_simp
    try simp only [Act.put,sIB,sCZ,sCS]
    refine wpAnyH_take (i:=5) (oi:=⟨some 90,_,_,_,_,_⟩) (v:=.bool false) rfl (by kernel_rfl) (by kernel_rfl) (by kernel_rfl) (fun _ _ _ h=>h) (Or.inl ⟨by rfl,fun w' hw'=>?_⟩) (by assumption) ?_
    · clear hHeld
      go_simp
    try simp only [Act.put,sIB,sCZ,sCS]
    refine wpAnyH_take (i:=6) (oi:=⟨some 91,_,_,_,_,_⟩) (v:=undef) rfl (by kernel_rfl) (by kernel_rfl) (by kernel_rfl) (fun _ _ _ h=>h) (Or.inr ⟨by rfl,rfl⟩) (by assumption) ?_
    try simp only [Act.put,sIB,sCZ,sCS]
    refine wpAnyH_take (i:=7) (oi:=⟨some 92,_,_,_,_,_⟩) (v:=undef) rfl (by kernel_rfl) (by kernel_rfl) (by kernel_rfl) (fun _ _ _ h=>h) (Or.inr ⟨by rfl,rfl⟩) (by assumption) ?_
    try simp only [Act.put,sIB,sCZ,sCS]
    refine wpAnyH_take (i:=8) (oi:=⟨some 93,_,_,_,_,_⟩) (v:=undef) rfl (by kernel_rfl) (by kernel_rfl) (by kernel_rfl) (fun _ _ _ h=>h) (Or.inr ⟨by rfl,rfl⟩) (by assumption) ?_
    try simp only [Act.put,sIB,sCZ,sCS]
    refine wpAnyH_take (i:=9) (oi:=⟨some 94,_,_,_,_,_⟩) (v:=undef) rfl (by kernel_rfl) (by kernel_rfl) (by kernel_rfl) (fun _ _ _ h=>h) (Or.inr ⟨by rfl,rfl⟩) (by assumption) ?_
    try simp only [Act.put,sIB,sCZ,sCS]
    refine wpAnyH_take (i:=10) (oi:=⟨some 95,_,_,_,_,_⟩) (v:=undef) rfl (by kernel_rfl) (by kernel_rfl) (by kernel_rfl) (fun _ _ _ h=>h) (Or.inr ⟨by rfl,rfl⟩) (by assumption) ?_
    try simp only [Act.put,sIB,sCZ,sCS]
    refine wpAnyH_take (i:=11) (oi:=⟨some 96,_,_,_,_,_⟩) (v:=.bool false) rfl (by kernel_rfl) (by kernel_rfl) (by kernel_rfl) (fun _ _ _ h=>h) (Or.inl ⟨by rfl,fun w' hw'=>?_⟩) (by assumption) ?_
    · clear hHeld
      go_simp
    try simp only [Act.put,sIB,sCZ,sCS]
    refine wpAnyH_take (i:=12) (oi:=⟨some 4,_,_,_,_,_⟩) (v:=.bool false) rfl (by kernel_rfl) (by kernel_rfl) (by kernel_rfl) (fun _ _ _ h=>h) (Or.inl ⟨by rfl,fun w' hw'=>?_⟩) (by assumption) ?_
    · clear hHeld
      go_simp
    try simp only [Act.put,sIB,sCZ,sCS]
    have hfin:=hHeld.out
    refine wpAnyH_done (by kernel_rfl) ?_ _
    clear hHeld
    go_wp2_with fail
    go_ret
    exact⟨by rw [HF.out];simp,HB2.out.trans (hfin.mono HB2.out.size)⟩
   case true =>
    cases ty
    case true =>
     go_upto_region 18 with (fail)
     clear y0 y3 y4 y9 c11 c13
     have hbd:Below w2.heap.size w2 w2.drew:=(Below.refl _ _).drew
     refine wp_region_held_drew (S:=fun w'=>Hid (Below w2.heap.size w2 w')) (by kernel_rfl) (hid hbd) (fun hHeld=>?_)
     clear hbd
     generalize w2.drew=Wd at *
     refine wpAnyH_take (i:=0) (oi:=⟨some 85,_,_,_,_,_⟩) (v:=.bool true) rfl (by kernel_rfl) (by kernel_rfl) (by kernel_rfl) (fun _ _ _ h=>h) (Or.inl ⟨by rfl,fun w' hw'=>?_⟩) (by assumption) ?_
     · clear hHeld
       go_simp
     try simp only [Act.put,sIB,sCZ,sCS]
     refine wpAnyH_take (i:=1) (oi:=⟨some 86,_,_,_,_,_⟩) (v:=.bool true) rfl (by kernel_rfl) (by kernel_rfl) (by kernel_rfl) (fun _ _ _ h=>h) (Or.inl ⟨by rfl,fun w' hw'=>?_⟩) (by assumption) ?_
     · clear hHeld
       go_simp
     try simp only [Act.put,sIB,sCZ,sCS]
     refine wpAnyH_take (i:=2) (oi:=⟨some 87,_,_,_,_,_⟩) (v:=.bool true) rfl (by kernel_rfl) (by kernel_rfl) (by kernel_rfl) (fun _ _ _ h=>h) (Or.inl ⟨by rfl,fun w' hw'=>?_⟩) (by assumption) ?_
     · clear hHeld
       go_simp
     try simp only [Act.put,sIB,sCZ,sCS]
     refine wpAnyH_take (i:=3) (oi:=⟨some 88,_,_,_,_,_⟩) (v:=.bool false) rfl (by kernel_rfl) (by kernel_rfl) (by kernel_rfl) (fun _ _ _ h=>h) (Or.inl ⟨by rfl,fun w' hw'=>?_⟩) (by assumption) ?_
     · clear hHeld
       go_simp
     try simp only [Act.put,sIB,sCZ,sCS]
     refine wpAnyH_take (i:=4) (oi:=⟨some 89,_,_,_,_,_⟩) (v:=.bool false) rfl (by kernel_rfl) (by kernel_rfl) (by kernel_rfl) (fun _ _ _ h=>h) (Or.inl ⟨by rfl,fun w' hw'=>?_⟩) (by assumption) ?_
     · clear hHeld
       go_simp
     try simp only [Act.put,sIB,sCZ,sCS]
     refine wpAnyH_take (i:=5) (oi:=⟨some 90,_,_,_,_,_⟩) (v:=.bool false) rfl (by kernel_rfl) (by kernel_rfl) (by kernel_rfl) (fun _ _ _ h=>h) (Or.inl ⟨by rfl,fun w' hw'=>?_⟩) (by assumption) ?_
     · clear hHeld
       go_simp
     try simp only [Act.put,sIB,sCZ,sCS]
     refine wpAnyH_take (i:=6) (oi:=⟨some 91,_,_,_,_,_⟩) (v:=undef) rfl (by kernel_rfl) (by kernel_rfl) (by kernel_rfl) (fun _ _ _ h=>h) (Or.inr ⟨by rfl,rfl⟩) (by assumption) ?_
     try simp only [Act.put,sIB,sCZ,sCS]
     refine wpAnyH_take (i:=7) (oi:=⟨some 92,_,_,_,_,_⟩) (v:=undef) rfl (by kernel_rfl) (by kernel_rfl) (by kernel_rfl) (fun _ _ _ h=>h) (Or.inr ⟨by rfl,rfl⟩) (by assumption) ?_
     try simp only [Act.put,sIB,sCZ,sCS]
     refine wpAnyH_take (i:=8) (oi:=⟨some 93,_,_,_,_,_⟩) (v:=undef) rfl (by kernel_rfl) (by kernel_rfl) (by kernel_rfl) (fun _ _ _ h=>h) (Or.inr ⟨by rfl,rfl⟩) (by assumption) ?_
     try simp only [Act.put,sIB,sCZ,sCS]
     refine wpAnyH_take (i:=9) (oi:=⟨some 94,_,_,_,_,_⟩) (v:=undef) rfl (by kernel_rfl) (by kernel_rfl) (by kernel_rfl) (fun _ _ _ h=>h) (Or.inr ⟨by rfl,rfl⟩) (by assumption) ?_
     try simp only [Act.put,sIB,sCZ,sCS]
     refine wpAnyH_take (i:=10) (oi:=⟨some 95,_,_,_,_,_⟩) (v:=undef) rfl (by kernel_rfl) (by kernel_rfl) (by kernel_rfl) (fun _ _ _ h=>h) (Or.inr ⟨by rfl,rfl⟩) (by assumption) ?_
     try simp only [Act.put,sIB,sCZ,sCS]
     refine wpAnyH_take (i:=11) (oi:=⟨some 96,_,_,_,_,_⟩) (v:=.bool false) rfl (by kernel_rfl) (by kernel_rfl) (by kernel_rfl) (fun _ _ _ h=>h) (Or.inl ⟨by rfl,fun w' hw'=>?_⟩) (by assumption) ?_
     · clear hHeld
       go_simp
     try simp only [Act.put,sIB,sCZ,sCS]
     refine wpAnyH_take (i:=12) (oi:=⟨some 4,_,_,_,_,_⟩) (v:=.bool false) rfl (by kernel_rfl) (by kernel_rfl) (by kernel_rfl) (fun _ _ _ h=>h) (Or.inl ⟨by rfl,fun w' hw'=>?_⟩) (by assumption) ?_
     · clear hHeld
       go_simp
     try simp only [Act.put,sIB,sCZ,sCS]
     have hfin:=hHeld.out
     refine wpAnyH_done (by kernel_rfl) ?_ _
     clear hHeld
     go_wp2_with fail
     go_ret
     exact⟨by rw [HF.out];simp,HB2.out.trans (hfin.mono HB2.out.size)⟩
    case false =>
     go_upto_region 18 with (fail)
     clear y0 y3 y4 y9 c11 c13
     have hbd:Below w2.heap.size w2 w2.drew:=(Below.refl _ _).drew
     refine wp_region_held_drew (S:=fun w'=>Hid (Below w2.heap.size w2 w')) (by kernel_rfl) (hid hbd) (fun hHeld=>?_)
     clear hbd
     generalize w2.drew=Wd at *
     refine wpAnyH_take (i:=0) (oi:=⟨some 85,_,_,_,_,_⟩) (v:=.bool true) rfl (by kernel_rfl) (by kernel_rfl) (by kernel_rfl) (fun _ _ _ h=>h) (Or.inl ⟨by rfl,fun w' hw'=>?_⟩) (by assumption) ?_
     · clear hHeld
       go_simp
     try simp only [Act.put,sIB,sCZ,sCS]
     refine wpAnyH_take (i:=1) (oi:=⟨some 86,_,_,_,_,_⟩) (v:=.bool true) rfl (by kernel_rfl) (by kernel_rfl) (by kernel_rfl) (fun _ _ _ h=>h) (Or.inl ⟨by rfl,fun w' hw'=>?_⟩) (by assumption) ?_
     · clear hHeld
       go_simp
     try simp only [Act.put,sIB,sCZ,sCS]
     refine wpAnyH_take (i:=2) (oi:=⟨some 87,_,_,_,_,_⟩) (v:=.bool false) rfl (by kernel_rfl) (by kernel_rfl) (by kernel_rfl) (fun _ _ _ h=>h) (Or.inl ⟨by rfl,fun w' hw'=>?_⟩) (by assumption) ?_
     · clear hHeld
       go_simp
     try simp only [Act.put,sIB,sCZ,sCS]
     refine wpAnyH_take (i:=3) (oi:=⟨some 88,_,_,_,_,_⟩) (v:=.bool true) rfl (by kernel_rfl) (by kernel_rfl) (by kernel_rfl) (fun _ _ _ h=>h) (Or.inl ⟨by rfl,fun w' hw'=>?_⟩) (by assumption) ?_
     · clear hHeld
       go_simp
     try simp only [Act.put,sIB,sCZ,sCS]
     refine wpAnyH_take (i:=4) (oi:=⟨some 89,_,_,_,_,_⟩) (v:=.bool true) rfl (by kernel_rfl) (by kernel_rfl) (by kernel_rfl) (fun _ _ _ h=>h) (Or.inl ⟨by rfl,fun w' hw'=>?_⟩) (by assumption) ?_
     · clear hHeld
       go_simp
     try simp only [Act.put,sIB,sCZ,sCS]
     refine wpAnyH_take (i:=5) (oi:=⟨some 90,_,_,_,_,_⟩) (v:=.bool true) rfl (by kernel_rfl) (by kernel_rfl) (by kernel_rfl) (fun _ _ _ h=>h) (Or.inl ⟨by rfl,fun w' hw'=>?_⟩) (by assumption) ?_
     · clear hHeld
       go_simp
     try simp only [Act.put,sIB,sCZ,sCS]
     refine wpAnyH_take (i:=6) (oi:=⟨some 91,_,_,_,_,_⟩) (v:=.pointer (some ⟨B+1,9,none⟩)) rfl (by kernel_rfl) (by kernel_rfl) (by kernel_rfl) (fun _ _ _ h=>h) (Or.inl ⟨by rfl,fun w' hw'=>?_⟩) (by assumption) ?_
     · clear hHeld
       go_simp
     try simp only [Act.put,sIB,sCZ,sCS]
     refine wpAnyH_take (i:=7) (oi:=⟨some 92,_,_,_,_,_⟩) (v:=.int .u8 r.o) rfl (by kernel_rfl) (by kernel_rfl) (by kernel_rfl) (fun _ _ _ h=>h) (Or.inl ⟨by rfl,fun w' hw'=>?_⟩) (by assumption) ?_
     · have hcx:=z0b (j:=9) (HY2.out.later hw'.out) (v:=.int .u8 r.o) rfl
       clear hHeld hw'
       go_simp
     try simp only [Act.put,sIB,sCZ,sCS]
     refine wpAnyH_take (i:=8) (oi:=⟨some 93,_,_,_,_,_⟩) (v:=.agg (ccs c)) rfl (by kernel_rfl) (by kernel_rfl) (by kernel_rfl) (fun _ _ _ h=>h) (Or.inl ⟨by rfl,fun w' hw'=>z1i rfl (HX2.out.later (Hid.out hw'))⟩) (by assumption) ?_
     try simp only [Act.put,sIB,sCZ,sCS]
     refine wpAnyH_ready (rs:=[9]) (by kernel_rfl) (by simp) (AllReadyH.cons rfl (fun K hK=>?_) (AllReadyH.nil))
     go_simp
     go_wp2_with fail
     refine (HO.out _).mono ?_
     rintro e w3 ⟨rfl,hb3⟩
     have hSN:Hid (Below w2.heap.size w2 w3):=hid (hHeld.out.trans (hb3.mono hHeld.out.size))
     clear hb3
     go_wp2_with fail
     refine hK.out _ _ hSN (fun hHeld2=>?_)
     try simp only [Act.put,sIB,sCZ,sCS]
     clear hSN hK K hHeld
     have hHeld:=hHeld2
     clear hHeld2
     refine wpAnyH_take (i:=10) (oi:=⟨some 95,_,_,_,_,_⟩) (v:=.bool (r.o==o)) rfl (by kernel_rfl) (by kernel_rfl) (by kernel_rfl) (fun _ _ _ h=>h) (Or.inl ⟨by rfl,fun w' hw'=>?_⟩) (by assumption) ?_
     · clear hHeld
       go_simp
     try simp only [Act.put,sIB,sCZ,sCS]
     refine wpAnyH_take (i:=11) (oi:=⟨some 96,_,_,_,_,_⟩) (v:=.bool (r.o==o)) rfl (by kernel_rfl) (by kernel_rfl) (by kernel_rfl) (fun _ _ _ h=>h) (Or.inl ⟨by rfl,fun w' hw'=>?_⟩) (by assumption) ?_
     · clear hHeld
       go_simp
     try simp only [Act.put,sIB,sCZ,sCS]
     refine wpAnyH_take (i:=12) (oi:=⟨some 4,_,_,_,_,_⟩) (v:=.bool (r.o==o)) rfl (by kernel_rfl) (by kernel_rfl) (by kernel_rfl) (fun _ _ _ h=>h) (Or.inl ⟨by rfl,fun w' hw'=>?_⟩) (by assumption) ?_
     · clear hHeld
       go_simp
     try simp only [Act.put,sIB,sCZ,sCS]
     have hfin:=hHeld.out
     refine wpAnyH_done (by kernel_rfl) ?_ _
     clear hHeld
     go_wp2_with fail
     go_ret
     exact⟨by rw [HF.out];simp,HB2.out.trans (hfin.mono HB2.out.size)⟩
 rename_i n2 n3 n6 n7 n4 n5 n8
 have HF:Hid (F=false):=hid (by rw [HF0.out,if_neg n2,if_neg (by omega),if_neg n4,if_neg n5,if_neg n8,if_neg hk])
 have b2:(r.k==2)=false:=beq_false_of_ne n2
 have b3:(r.k==3)=false:=beq_false_of_ne n3
 have b6:(r.k==6)=false:=beq_false_of_ne n6
 have b7:(r.k==7)=false:=beq_false_of_ne n7
 have b4:(r.k==4)=false:=beq_false_of_ne n4
 have b5:(r.k==5)=false:=beq_false_of_ne n5
 have b8:(r.k==8)=false:=beq_false_of_ne n8
 have b9:(r.k==9)=false:=beq_false_of_ne hk
 clear HF0 n2 n3 n4 n5 n6 n7 n8 hk
 go_wp2_with fail
 go_ret
 exact⟨by rw [HF.out];rfl,HB2.out⟩
def aftV (c:Cv) (r:Rv):Cv :=
 if r.k=2 then { c with tx:=r.tx }
 else if r.k=4 then { c with st:=if c.bk then c.st-1 else c.st+1,tx:=0 }
 else if r.k=5 then { c with tr:=c.tr+1 }
 else if r.k=7 then { c with tx:=0 }
 else if r.k=8 then { c with bk:=true }
 else c
theorem aftV_x (c:Cv) (r:Rv) (L:List Ln) (T:List Tk) (M:List Ln) (La:List Ln) (Ta:List Tk) (Ma:List Ln):(aftV c r).x L T M=z8s (c.x L T M) (r.x La Ta Ma):=by
 unfold aftV z8s
 show _=if r.k=2 then _ else if r.k=4 then _ else if r.k=5 then _ else if r.k=7 then _ else if r.k=8 then _ else _
 by_cases h2:r.k=2
 · rw [if_pos h2,if_pos h2];rfl
 rw [if_neg h2,if_neg h2]
 by_cases h4:r.k=4
 · rw [if_pos h4,if_pos h4];rfl
 rw [if_neg h4,if_neg h4]
 by_cases h5:r.k=5
 · rw [if_pos h5,if_pos h5];rfl
 rw [if_neg h5,if_neg h5]
 by_cases h7:r.k=7
 · rw [if_pos h7,if_pos h7];rfl
 rw [if_neg h7,if_neg h7]
 by_cases h8:r.k=8
 · rw [if_pos h8,if_pos h8];rfl
 rw [if_neg h8,if_neg h8]
theorem aftV_p (c:Cv) (r:Rv):(aftV c r).p=c.p:=by
 unfold aftV
 repeat (first | rfl | split)
theorem cr_three (W:World) (c:Cv) (r:Rv):∃ W1,((W.alloc (.cells (ccs c) 28)).alloc (.cells (rcs r) 32)).alloc (.cells #[.int .u32 0,.int .u8 0,.int .u32 0,.int .u8 0,.slice none 0 0,.slice none 0 0,.slice none 0 0,.int .u8 0,.int .u8 0,.int .u8 0,.int .i64 0,.bool false,.int .i64 0,.int .i64 0,.int .u32 0] 28)=W1∧CB W1 W.heap.size c∧RB W1 (W.heap.size+1) r∧CB W1 (W.heap.size+2) cz∧Below W.heap.size W W1:=by
 obtain⟨W0,h0,h1,h2,h3⟩:=cr_two W c r
 have hs:W0.heap.size=W.heap.size+2:=by rw [← h0];simp only [World.alloc,Array.size_push]
 have hb:Below W0.heap.size W0 (W0.alloc (.cells #[.int .u32 0,.int .u8 0,.int .u32 0,.int .u8 0,.slice none 0 0,.slice none 0 0,.slice none 0 0,.int .u8 0,.int .u8 0,.int .u8 0,.int .i64 0,.bool false,.int .i64 0,.int .i64 0,.int .u32 0] 28)):=(Below.refl _ _).alloc (Nat.le_refl _) _
 refine⟨_,rfl,?_⟩
 rw [h0]
 refine⟨h1.later hb,h2.later hb,?_,h3.trans (hb.mono h3.size)⟩
 have h:=CB.new W0 cz
 rw [hs] at h
 exact h
theorem z2l {fn:Func} (h:fn.results=#[.cell 4 28]) (tmps:Array Value) (W:World) (R:Nat) (c:Cv) (hp:tmps.getD 4 undef=.pointer (some ⟨R,0,none⟩))
 (hB:CB W R c):(results fn tmps).run Tryd.prog W=.ok (.agg (ccs c)) W :=
 results_cell_row h tmps _ R 28 (ccs c) (0,0) _ hp hB Tryd.underlying28 rfl (by kernel_rfl)
theorem cr_after (c:Cv) (r:Rv) (W:World) (hst:-9223372036854775807≤c.st∧c.st<9223372036854775807) (htr:r.k=5→0≤c.tr∧c.tr<9223372036854775807):Calls Tryd.prog 34 #[.agg (ccs c),.agg (rcs r)] W fun e w'=>e=.returned (.agg (ccs (aftV c r)))∧Below W.heap.size W w':=by
 obtain⟨W1,hW1,hx,hy,hz,hb1⟩:∃ W1,((W.alloc (.cells (ccs c) 28)).alloc (.cells (rcs r) 32)).alloc (.cells #[.int .u32 0,.int .u8 0,.int .u32 0,.int .u8 0,.slice none 0 0,.slice none 0 0,.slice none 0 0,.int .u8 0,.int .u8 0,.int .u8 0,.int .i64 0,.bool false,.int .i64 0,.int .i64 0,.int .u32 0] 28)=W1∧CB W1 W.heap.size c∧RB W1 (W.heap.size+1) r∧CB W1 (W.heap.size+2) cz∧Below W.heap.size W W1:=cr_three W c r
 obtain⟨B,hB⟩:∃ B,W.heap.size=B:=⟨_,rfl⟩
 rw [hB] at hx hy hz
 have HX:=hid hx
 have HY:=hid hy
 have HZ:=hid hz
 have HW1:=hid hW1
 have HB1:=hid hb1
 have HRE:=hid hB
 have HTR:=hid htr
 have hw1:IntKind.i64.wrap (c.st-1)=c.st-1:=IntWalk.i64_in _ (by omega)
 have hw2:IntKind.i64.wrap (c.st+1)=c.st+1:=IntWalk.i64_in _ (by omega)
 have y0:=z0b (j:=0) hy (v:=.int .u8 r.k) rfl
 have y2:=z0b (j:=2) hy (v:=.int .u32 r.tx) rfl
 obtain⟨a0,a11,a12,a13,a14⟩:=hx.at
 have f11:=hx.free 11
 have f12:=hx.free 12
 have f13:=hx.free 13
 have f14:=hx.free 14
 have HK0:Hid (aftV c r=if r.k=2 then { c with tx:=r.tx }
 else if r.k=4 then { c with st:=if c.bk then c.st-1 else c.st+1,tx:=0 }
 else if r.k=5 then { c with tr:=c.tr+1 }
 else if r.k=7 then { c with tx:=0 }
 else if r.k=8 then { c with bk:=true }
 else c):=hid rfl
 generalize aftV c r=V at *
 clear hW1 hx hy hz hb1 hB hst htr a0
 by_cases hk:r.k=2
 · have HK:Hid (V={ c with tx:=r.tx }):=hid (by rw [HK0.out,hk];rfl)
   rw [hk] at y0
   clear hk HK0
   go_enter Tryd.func34,Tryd.ntmps34
   go_upto_region 1 with (fail)
   (rw [HW1.out,HRE.out];try rw [show B+1+1=B+2 from rfl])
   go_upto_region 15 with (fail)
   have hc2:Chg (fun k=>k=B) W1 (W1.setCell ⟨B,14,none⟩ (.int .u32 r.tx)):=(Chg.refl _ _).setCell _ _ fun _=>rfl
   have HX2:Hid (CB (W1.setCell ⟨B,14,none⟩ (.int .u32 r.tx)) B ({ c with tx:=r.tx })):=hid (HX.out.put 14 (.int .u32 r.tx) _ rfl)
   have HZ2:Hid (CB (W1.setCell ⟨B,14,none⟩ (.int .u32 r.tx)) (B+2) cz):=hid (HZ.out.chg hc2 (by omega))
   have HB2:Hid (Below W.heap.size W (W1.setCell ⟨B,14,none⟩ (.int .u32 r.tx))):=hid (Chg.below HB1.out HB1.out.size hc2 fun k hk=>by rw [hk];exact Nat.le_of_eq HRE.out)
   clear hc2
   go_wp2_with (first | ((with_reducible refine z0c HX2.out ?_ ?_);rfl) | ((with_reducible refine z0m ({ c with tx:=r.tx }) HZ2.out ?_ ?_ ?_);rfl;rfl))
   (try simp only [Exit.inBlock,Exit.then])
   refine bodyPost_ret (v:=.agg (ccs ({ c with tx:=r.tx }))) ?_ rfl ⟨by rw [HK.out],below_setRow HB2.out (by have:=HRE.out;omega) _⟩
   exact z2l rfl _ _ (B+2) _ rfl (HZ2.out.set _)
 by_cases hk:r.k=5
 · have HK:Hid (V={ c with tr:=c.tr+1 }):=hid (by rw [HK0.out,hk];rfl)
   rw [hk] at y0
   have hw5:IntKind.i64.wrap (c.tr+1)=c.tr+1:=IntWalk.i64_in _ (by have:=HTR.out hk;omega)
   clear hk HK0
   go_enter Tryd.func34,Tryd.ntmps34
   go_upto_region 1 with (fail)
   (rw [HW1.out,HRE.out];try rw [show B+1+1=B+2 from rfl])
   go_upto_region 15 with (fail)
   have hc2:Chg (fun k=>k=B) W1 (W1.setCell ⟨B,13,none⟩ (.int .i64 (c.tr+1))):=(Chg.refl _ _).setCell _ _ fun _=>rfl
   have HX2:Hid (CB (W1.setCell ⟨B,13,none⟩ (.int .i64 (c.tr+1))) B ({ c with tr:=c.tr+1 })):=hid (HX.out.put 13 (.int .i64 (c.tr+1)) _ rfl)
   have HZ2:Hid (CB (W1.setCell ⟨B,13,none⟩ (.int .i64 (c.tr+1))) (B+2) cz):=hid (HZ.out.chg hc2 (by omega))
   have HB2:Hid (Below W.heap.size W (W1.setCell ⟨B,13,none⟩ (.int .i64 (c.tr+1)))):=hid (Chg.below HB1.out HB1.out.size hc2 fun k hk=>by rw [hk];exact Nat.le_of_eq HRE.out)
   clear hc2
   go_wp2_with (first | ((with_reducible refine z0c HX2.out ?_ ?_);rfl) | ((with_reducible refine z0m ({ c with tr:=c.tr+1 }) HZ2.out ?_ ?_ ?_);rfl;rfl))
   (try simp only [Exit.inBlock,Exit.then])
   refine bodyPost_ret (v:=.agg (ccs ({ c with tr:=c.tr+1 }))) ?_ rfl ⟨by rw [HK.out],below_setRow HB2.out (by have:=HRE.out;omega) _⟩
   exact z2l rfl _ _ (B+2) _ rfl (HZ2.out.set _)
 by_cases hk:r.k=7
 · have HK:Hid (V={ c with tx:=0 }):=hid (by rw [HK0.out,hk];rfl)
   rw [hk] at y0
   clear hk HK0
   go_enter Tryd.func34,Tryd.ntmps34
   go_upto_region 1 with (fail)
   (rw [HW1.out,HRE.out];try rw [show B+1+1=B+2 from rfl])
   go_upto_region 15 with (fail)
   have hc2:Chg (fun k=>k=B) W1 (W1.setCell ⟨B,14,none⟩ (.int .u32 0)):=(Chg.refl _ _).setCell _ _ fun _=>rfl
   have HX2:Hid (CB (W1.setCell ⟨B,14,none⟩ (.int .u32 0)) B ({ c with tx:=0 })):=hid (HX.out.put 14 (.int .u32 0) _ rfl)
   have HZ2:Hid (CB (W1.setCell ⟨B,14,none⟩ (.int .u32 0)) (B+2) cz):=hid (HZ.out.chg hc2 (by omega))
   have HB2:Hid (Below W.heap.size W (W1.setCell ⟨B,14,none⟩ (.int .u32 0))):=hid (Chg.below HB1.out HB1.out.size hc2 fun k hk=>by rw [hk];exact Nat.le_of_eq HRE.out)
   clear hc2
   go_wp2_with (first | ((with_reducible refine z0c HX2.out ?_ ?_);rfl) | ((with_reducible refine z0m ({ c with tx:=0 }) HZ2.out ?_ ?_ ?_);rfl;rfl))
   (try simp only [Exit.inBlock,Exit.then])
   refine bodyPost_ret (v:=.agg (ccs ({ c with tx:=0 }))) ?_ rfl ⟨by rw [HK.out],below_setRow HB2.out (by have:=HRE.out;omega) _⟩
   exact z2l rfl _ _ (B+2) _ rfl (HZ2.out.set _)
 by_cases hk:r.k=8
 · have HK:Hid (V={ c with bk:=true }):=hid (by rw [HK0.out,hk];rfl)
   rw [hk] at y0
   clear hk HK0
   go_enter Tryd.func34,Tryd.ntmps34
   go_upto_region 1 with (fail)
   (rw [HW1.out,HRE.out];try rw [show B+1+1=B+2 from rfl])
   go_upto_region 15 with (fail)
   have hc2:Chg (fun k=>k=B) W1 (W1.setCell ⟨B,11,none⟩ (.bool true)):=(Chg.refl _ _).setCell _ _ fun _=>rfl
   have HX2:Hid (CB (W1.setCell ⟨B,11,none⟩ (.bool true)) B ({ c with bk:=true })):=hid (HX.out.put 11 (.bool true) _ rfl)
   have HZ2:Hid (CB (W1.setCell ⟨B,11,none⟩ (.bool true)) (B+2) cz):=hid (HZ.out.chg hc2 (by omega))
   have HB2:Hid (Below W.heap.size W (W1.setCell ⟨B,11,none⟩ (.bool true))):=hid (Chg.below HB1.out HB1.out.size hc2 fun k hk=>by rw [hk];exact Nat.le_of_eq HRE.out)
   clear hc2
   go_wp2_with (first | ((with_reducible refine z0c HX2.out ?_ ?_);rfl) | ((with_reducible refine z0m ({ c with bk:=true }) HZ2.out ?_ ?_ ?_);rfl;rfl))
   (try simp only [Exit.inBlock,Exit.then])
   refine bodyPost_ret (v:=.agg (ccs ({ c with bk:=true }))) ?_ rfl ⟨by rw [HK.out],below_setRow HB2.out (by have:=HRE.out;omega) _⟩
   exact z2l rfl _ _ (B+2) _ rfl (HZ2.out.set _)
 by_cases hk:r.k=4
 · cases hbk:c.bk
   · have HK:Hid (V={ c with st:=c.st+1,tx:=0 }):=hid (by rw [HK0.out,hk,hbk];rfl)
     rw [hk] at y0
     rw [hbk] at a11
     clear hk HK0 hbk
     go_enter Tryd.func34,Tryd.ntmps34
     go_upto_region 1 with (fail)
     (rw [HW1.out,HRE.out];try rw [show B+1+1=B+2 from rfl])
     go_upto_region 15 with (fail)
     have hc2:Chg (fun k=>k=B) W1 (W1.setCell ⟨B,12,none⟩ (.int .i64 (c.st+1))):=(Chg.refl _ _).setCell _ _ fun _=>rfl
     have HX2:Hid (CB (W1.setCell ⟨B,12,none⟩ (.int .i64 (c.st+1))) B ({ c with st:=c.st+1 })):=hid (HX.out.put 12 (.int .i64 (c.st+1)) _ rfl)
     have HZ2:Hid (CB (W1.setCell ⟨B,12,none⟩ (.int .i64 (c.st+1))) (B+2) cz):=hid (HZ.out.chg hc2 (by omega))
     have HB2:Hid (Below W.heap.size W (W1.setCell ⟨B,12,none⟩ (.int .i64 (c.st+1)))):=hid (Chg.below HB1.out HB1.out.size hc2 fun k hk=>by rw [hk];exact Nat.le_of_eq HRE.out)
     clear hc2
     have hc3:Chg (fun k=>k=B) (W1.setCell ⟨B,12,none⟩ (.int .i64 (c.st+1))) ((W1.setCell ⟨B,12,none⟩ (.int .i64 (c.st+1))).setCell ⟨B,14,none⟩ (.int .u32 0)):=(Chg.refl _ _).setCell _ _ fun _=>rfl
     have HX3:Hid (CB ((W1.setCell ⟨B,12,none⟩ (.int .i64 (c.st+1))).setCell ⟨B,14,none⟩ (.int .u32 0)) B ({ c with st:=c.st+1,tx:=0 })):=hid (HX2.out.put 14 (.int .u32 0) _ rfl)
     have HZ3:Hid (CB ((W1.setCell ⟨B,12,none⟩ (.int .i64 (c.st+1))).setCell ⟨B,14,none⟩ (.int .u32 0)) (B+2) cz):=hid (HZ2.out.chg hc3 (by omega))
     have HB3:Hid (Below W.heap.size W ((W1.setCell ⟨B,12,none⟩ (.int .i64 (c.st+1))).setCell ⟨B,14,none⟩ (.int .u32 0))):=hid (Chg.below HB2.out HB2.out.size hc3 fun k hk=>by rw [hk];exact Nat.le_of_eq HRE.out)
     clear hc3
     go_wp2_with (first | ((with_reducible refine z0c HX3.out ?_ ?_);rfl) | ((with_reducible refine z0m ({ c with st:=c.st+1,tx:=0 }) HZ3.out ?_ ?_ ?_);rfl;rfl))
     (try simp only [Exit.inBlock,Exit.then])
     refine bodyPost_ret (v:=.agg (ccs ({ c with st:=c.st+1,tx:=0 }))) ?_ rfl ⟨by rw [HK.out],below_setRow HB3.out (by have:=HRE.out;omega) _⟩
     exact z2l rfl _ _ (B+2) _ rfl (HZ3.out.set _)
   · have HK:Hid (V={ c with st:=c.st-1,tx:=0 }):=hid (by rw [HK0.out,hk,hbk];rfl)
     rw [hk] at y0
     rw [hbk] at a11
     clear hk HK0 hbk
     go_enter Tryd.func34,Tryd.ntmps34
     go_upto_region 1 with (fail)
     (rw [HW1.out,HRE.out];try rw [show B+1+1=B+2 from rfl])
     go_upto_region 15 with (fail)
     have hc2:Chg (fun k=>k=B) W1 (W1.setCell ⟨B,12,none⟩ (.int .i64 (c.st-1))):=(Chg.refl _ _).setCell _ _ fun _=>rfl
     have HX2:Hid (CB (W1.setCell ⟨B,12,none⟩ (.int .i64 (c.st-1))) B ({ c with st:=c.st-1 })):=hid (HX.out.put 12 (.int .i64 (c.st-1)) _ rfl)
     have HZ2:Hid (CB (W1.setCell ⟨B,12,none⟩ (.int .i64 (c.st-1))) (B+2) cz):=hid (HZ.out.chg hc2 (by omega))
     have HB2:Hid (Below W.heap.size W (W1.setCell ⟨B,12,none⟩ (.int .i64 (c.st-1)))):=hid (Chg.below HB1.out HB1.out.size hc2 fun k hk=>by rw [hk];exact Nat.le_of_eq HRE.out)
     clear hc2
     have hc3:Chg (fun k=>k=B) (W1.setCell ⟨B,12,none⟩ (.int .i64 (c.st-1))) ((W1.setCell ⟨B,12,none⟩ (.int .i64 (c.st-1))).setCell ⟨B,14,none⟩ (.int .u32 0)):=(Chg.refl _ _).setCell _ _ fun _=>rfl
     have HX3:Hid (CB ((W1.setCell ⟨B,12,none⟩ (.int .i64 (c.st-1))).setCell ⟨B,14,none⟩ (.int .u32 0)) B ({ c with st:=c.st-1,tx:=0 })):=hid (HX2.out.put 14 (.int .u32 0) _ rfl)
     have HZ3:Hid (CB ((W1.setCell ⟨B,12,none⟩ (.int .i64 (c.st-1))).setCell ⟨B,14,none⟩ (.int .u32 0)) (B+2) cz):=hid (HZ2.out.chg hc3 (by omega))
     have HB3:Hid (Below W.heap.size W ((W1.setCell ⟨B,12,none⟩ (.int .i64 (c.st-1))).setCell ⟨B,14,none⟩ (.int .u32 0))):=hid (Chg.below HB2.out HB2.out.size hc3 fun k hk=>by rw [hk];exact Nat.le_of_eq HRE.out)
     clear hc3
     go_wp2_with (first | ((with_reducible refine z0c HX3.out ?_ ?_);rfl) | ((with_reducible refine z0m ({ c with st:=c.st-1,tx:=0 }) HZ3.out ?_ ?_ ?_);rfl;rfl))
     (try simp only [Exit.inBlock,Exit.then])
     refine bodyPost_ret (v:=.agg (ccs ({ c with st:=c.st-1,tx:=0 }))) ?_ rfl ⟨by rw [HK.out],below_setRow HB3.out (by have:=HRE.out;omega) _⟩
     exact z2l rfl _ _ (B+2) _ rfl (HZ3.out.set _)
 rename_i n2 n5 n7 n8
 have HK:Hid (V=c):=hid (by rw [HK0.out,if_neg n2,if_neg hk,if_neg n5,if_neg n7,if_neg n8])
 have b2:(r.k==2)=false:=beq_false_of_ne n2
 have b4:(r.k==4)=false:=beq_false_of_ne hk
 have b5:(r.k==5)=false:=beq_false_of_ne n5
 have b7:(r.k==7)=false:=beq_false_of_ne n7
 have b8:(r.k==8)=false:=beq_false_of_ne n8
 clear HK0 n2 n5 n7 n8 hk
 go_enter Tryd.func34,Tryd.ntmps34
 go_upto_region 1 with (fail)
 (rw [HW1.out,HRE.out];try rw [show B+1+1=B+2 from rfl])
 go_upto_region 15 with (fail)
 go_wp2_with (first | ((with_reducible refine z0c HX.out ?_ ?_);rfl) | ((with_reducible refine z0m (c) HZ.out ?_ ?_ ?_);rfl;rfl))
 (try simp only [Exit.inBlock,Exit.then])
 refine bodyPost_ret (v:=.agg (ccs (c))) ?_ rfl ⟨by rw [HK.out],below_setRow HB1.out (by have:=HRE.out;omega) _⟩
 exact z2l rfl _ _ (B+2) _ rfl (HZ.out.set _)
end Go.Proofs.YtnpjpelbcmgodaaDoor
