import Derived.Test.YtclbkfpbdidaiaaGreatDoorPA36
namespace Go.Proofs.YtclbkfpbdidaiaaGreatDoor
open Go.Lib (hid)
set_option maxHeartbeats 16000000
open Go.RowKit Go.ChangeShapes Go.WideShapes
set_option linter.unusedVariables false
set_option linter.unusedSimpArgs false
set_option maxRecDepth 10000
structure Gz (W w:World) (B Y:Nat) (r q:Rv):Prop where
 x:RB w B r
 y:RB w Y q
 below:Below W.heap.size W w
 ord:W.heap.size≤B∧B<Y
theorem Gz.later {W w w':World} {B Y:Nat} {r q:Rv} (h:Gz W w B Y r q) (hb:Below w.heap.size w w'):Gz W w' B Y r q:=⟨h.x.later hb,h.y.later hb,h.below.trans (hb.mono h.below.size),h.ord⟩
theorem Gz.put {W w:World} {B Y:Nat} {r q:Rv} (h:Gz W w B Y r q) (j:Nat) (v:Value) (q':Rv) (he:(rcs q).setIfInBounds j v=rcs q'):Gz W (w.setCell ⟨Y,j,none⟩ v) B Y r q':=by
 have ho:=h.ord
 have hc:Chg (fun k=>k=Y) w (w.setCell ⟨Y,j,none⟩ v):=(Chg.refl _ _).setCell ⟨Y,j,none⟩ _ fun _=>rfl
 exact⟨h.x.chg hc (by omega),h.y.put j v q' he,Chg.below h.below h.below.size hc fun k hk=>by omega,h.ord⟩
theorem Gz.set {W w:World} {B Y:Nat} {r q:Rv} (h:Gz W w B Y r q) (q':Rv):Gz W (w.setRow Y (rcs q')) B Y r q':=by
 have ho:=h.ord
 have hc:Chg (fun k=>k=Y) w (w.setRow Y (rcs q')):=⟨rfl,rfl,rfl,by simp [World.setRow],fun k _ hn=>setRow_other _ _ _ _ hn⟩
 exact⟨h.x.chg hc (by omega),h.y.set q',Chg.below h.below h.below.size hc fun k hk=>by omega,h.ord⟩
theorem Gz.cy {W w:World} {B Y:Nat} {r q:Rv} (h:Gz W w B Y r q) {j:Nat} {v:Value} (hj:(rcs q)[j]?=some v):w.cell? ⟨Y,j,none⟩=some v∧w.frozen? ⟨Y,j,none⟩=false:=⟨z0a h.y hj,block_free j h.y⟩
theorem Gz.cx {W w:World} {B Y:Nat} {r q:Rv} (h:Gz W w B Y r q) {j:Nat} {v:Value} (hj:(rcs r)[j]?=some v):w.cell? ⟨B,j,none⟩=some v:=z0a h.x hj
theorem rrec_good1 (r:Rv) (L:List Ln) (T:List Tk) (M:List Ln) (W:World) (hP:RvM W r L T M) (hok:Rxok (r.x L T M)) (h1:r.ln≤1000∧r.tn≤1000∧r.wn≤1000) (hk:r.k=1):Calls Tryz.prog 85 #[.agg (rcs r)] W fun e w'=>e=.returned (.bool (z1n (r.x L T M)))∧Below W.heap.size W w':=by
 have HOK:=hid hok
 have HP:=hid hP
 have HH:=hid h1
 clear hok hP h1
 obtain⟨W1,hW1,hb1⟩:∃ W1,W.alloc (.cells (rcs r) 42)=W1∧Below W.heap.size W W1:=⟨_,rfl,(Below.refl _ _).alloc (Nat.le_refl _) _⟩
 obtain⟨B,hB⟩:∃ B,W.heap.size=B:=⟨_,rfl⟩
 have hrb:=RB.new W r
 rw [hW1,hB] at hrb
 obtain⟨Y,hY⟩:∃ Y,W1.heap.size=Y:=⟨_,rfl⟩
 have hBY:B<Y:=by have:=hrb.lt;omega
 obtain⟨w1,hw1,hx1,hb1a⟩:∃ w1,W1.alloc (.cells zr 42)=w1∧RB w1 Y rz∧Below W1.heap.size W1 w1:=⟨_,rfl,by rw [← hY];exact z0c W1 _,(Below.refl _ _).alloc (Nat.le_refl _) _⟩
 have hG1:Gz W w1 B Y r rz:=⟨hrb.later hb1a,hx1,hb1.trans (hb1a.mono hb1.size),by omega,hBY⟩
 obtain⟨w2,hw2,hG2⟩:∃ w2,w1.setRow Y (rcs (rm 1 0 0 0 false 0 0 0 0 0))=w2∧Gz W w2 B Y r (rm 1 0 0 0 false 0 0 0 0 0):=⟨_,rfl,hG1.set _⟩
 have HX1:=hid hrb
 have HW1:=hid hW1
 have HRE:=hid hB
 have HYE:=hid hY
 have HW1a:=hid hw1
 have HXZ:=hid hx1
 have HW2:=hid hw2
 have HG2:=hid hG2
 have c0:W1.cell? ⟨B,0,none⟩=some (.int .u8 r.k):=z0a hrb rfl
 rw [hk] at c0
 clear hW1 hB hY hBY hw1 hx1 hb1a hG1 hw2 hG2 hb1 hrb
 have HHK:=hid hk
 go_enter Tryz.func85,Tryz.ntmps85
 go_upto_region 1 with (fail)
 rw [HW1.out,HRE.out]
 go_upto_region 2 with ((try rw [HYE.out]);(try rw [HW1a.out]);(with_reducible refine z1b (rm 1 0 0 0 false 0 0 0 0 0) HXZ.out ?_ ?_ ?_);rfl;rfl;rw [HW2.out])
 clear c0 HX1 HW1 HRE HYE HW1a HXZ HW2
 have c0:=HG2.out.cx (j:=0) (v:=.int .u8 r.k) rfl
 have c1:=HG2.out.cx (j:=1) (v:=.int .u32 r.sg) rfl
 have c2:=HG2.out.cx (j:=2) (v:=.int .u32 r.tx) rfl
 have c3:=HG2.out.cx (j:=3) (v:=.int .u8 r.st) rfl
 have c4:=HG2.out.cx (j:=4) (v:=.bool r.cp) rfl
 have c8:=HG2.out.cx (j:=8) (v:=.int .i64 r.d) rfl
 have c9:=HG2.out.cx (j:=9) (v:=.int .u8 r.o) rfl
 rw [hk] at c0
 obtain⟨cy,cf⟩:=HG2.out.cy (j:=1) (v:=.int .u32 0) rfl
 go_upto_region 7 with (fail)
 clear cy cf
 have hq:=HG2.out.put 1 (.int .u32 r.sg) (rm 1 r.sg 0 0 false 0 0 0 0 0) rfl
 generalize w2.setCell ⟨Y,1,none⟩ (.int .u32 r.sg)=w3 at *
 have HG3:=hid hq
 clear hq HG2
 clear c0 c1 c2 c3 c4 c8 c9
 have c0:=HG3.out.cx (j:=0) (v:=.int .u8 r.k) rfl
 have c1:=HG3.out.cx (j:=1) (v:=.int .u32 r.sg) rfl
 have c2:=HG3.out.cx (j:=2) (v:=.int .u32 r.tx) rfl
 have c3:=HG3.out.cx (j:=3) (v:=.int .u8 r.st) rfl
 have c4:=HG3.out.cx (j:=4) (v:=.bool r.cp) rfl
 have c8:=HG3.out.cx (j:=8) (v:=.int .i64 r.d) rfl
 have c9:=HG3.out.cx (j:=9) (v:=.int .u8 r.o) rfl
 rw [hk] at c0
 obtain⟨w4,hgen,hq⟩:∃ w4,w3.setRow Y (rcs (Rv.withP (rm 1 r.sg 0 0 false 0 0 0 0 0) r))=w4∧Gz W w4 B Y r (Rv.withP (rm 1 r.sg 0 0 false 0 0 0 0 0) r):=⟨_,rfl,HG3.out.set _⟩
 have HGEN:=hid hgen
 have HG4:=hid hq
 clear hgen hq
 go_upto_region 8 with (first | ((with_reducible refine wpList_load_pr HG3.out.x ?_ ?_);rfl) | ((with_reducible refine wpList_store_pr r HG3.out.y ?_ ?_ ?_);rfl;rfl;rw [HGEN.out]))
 clear HGEN HG3
 clear c0 c1 c2 c3 c4 c8 c9
 have c0:=HG4.out.cx (j:=0) (v:=.int .u8 r.k) rfl
 have c1:=HG4.out.cx (j:=1) (v:=.int .u32 r.sg) rfl
 have c2:=HG4.out.cx (j:=2) (v:=.int .u32 r.tx) rfl
 have c3:=HG4.out.cx (j:=3) (v:=.int .u8 r.st) rfl
 have c4:=HG4.out.cx (j:=4) (v:=.bool r.cp) rfl
 have c8:=HG4.out.cx (j:=8) (v:=.int .i64 r.d) rfl
 have c9:=HG4.out.cx (j:=9) (v:=.int .u8 r.o) rfl
 rw [hk] at c0
 have HA:Hid (z1n (r.x L T M)=((r.sg != 0) && z0p 4 4 (r.pg L T M) && decide (r.x L T M=(Rv.x (Rv.withP (rm 1 r.sg 0 0 false 0 0 0 0 0) r) L T M)))):=hid (by
  have e:r.x L T M=⟨1,r.sg,r.tx,r.st,r.cp,(r.ka,r.kb,r.kc),r.d,r.o,r.pg L T M⟩:=by unfold Rv.x;rw [hk]
  rw [e,gk1 _ _ _ _ _ _ _ _]
  rfl)
 obtain⟨z,hz⟩:∃ z,decide (r.x L T M=(Rv.x (Rv.withP (rm 1 r.sg 0 0 false 0 0 0 0 0) r) L T M))=z:=⟨_,rfl⟩
 rw [hz] at HA
 have HSM:=hid (fun w (h:Gz W w B Y r (Rv.withP (rm 1 r.sg 0 0 false 0 0 0 0 0) r))=>rrec_same r (Rv.withP (rm 1 r.sg 0 0 false 0 0 0 0 0) r) L T M L T M w (HP.out.later h.below) (HP.out.later h.below) HH.out HH.out)
 rw [hz] at HSM
 clear hz hk
 have HGX:=HG4
 clear HG4
 cases qsg:(r.sg != 0)
 case false =>
  go_wp2_with (first | ((with_reducible refine z0d HGX.out.x ?_ ?_ ?_);rfl;rfl) | ((with_reducible refine z0d HGX.out.y ?_ ?_ ?_);rfl;rfl) | ((with_reducible refine z0f HGX.out.x ?_ ?_ ?_);rfl;rfl) | ((with_reducible refine z0g HGX.out.x ?_ ?_ ?_);rfl;rfl))
  go_ret
  exact⟨by rw [HA.out,qsg];rfl,HGX.out.below⟩
 go_wp2_with (first | ((with_reducible refine z0d HGX.out.x ?_ ?_ ?_);rfl;rfl) | ((with_reducible refine z0d HGX.out.y ?_ ?_ ?_);rfl;rfl) | ((with_reducible refine z0f HGX.out.x ?_ ?_ ?_);rfl;rfl) | ((with_reducible refine z0g HGX.out.x ?_ ?_ ?_);rfl;rfl))
 refine (rgood_p 4 4 r.pk r.od r.po r.lp r.ln r.lcp r.tp r.tn r.tcp r.wp r.wn r.wcp r.sk r.fr r.to r.q L T M w4 (HP.out.later HGX.out.below) HOK.out.pg HH.out).mono ?_
 rintro e w5 ⟨rfl,hcb⟩
 have hgp:z0p 4 4 ⟨r.pk,r.od,r.po,L,T,M,r.sk,r.fr,r.to,r.q⟩=z0p 4 4 (r.pg L T M):=rfl
 rw [hgp]
 clear hgp
 have HGX:=hid (HGX.out.later hcb)
 clear hcb
 clear c0 c1 c2 c3 c4 c8 c9
 have c0:=HGX.out.cx (j:=0) (v:=.int .u8 r.k) rfl
 have c1:=HGX.out.cx (j:=1) (v:=.int .u32 r.sg) rfl
 have c2:=HGX.out.cx (j:=2) (v:=.int .u32 r.tx) rfl
 have c3:=HGX.out.cx (j:=3) (v:=.int .u8 r.st) rfl
 have c4:=HGX.out.cx (j:=4) (v:=.bool r.cp) rfl
 have c8:=HGX.out.cx (j:=8) (v:=.int .i64 r.d) rfl
 have c9:=HGX.out.cx (j:=9) (v:=.int .u8 r.o) rfl
 rw [HHK.out] at c0
 cases qCP:z0p 4 4 (r.pg L T M)
 case false =>
  go_wp2_with (first | ((with_reducible refine z0d HGX.out.x ?_ ?_ ?_);rfl;rfl) | ((with_reducible refine z0d HGX.out.y ?_ ?_ ?_);rfl;rfl) | ((with_reducible refine z0f HGX.out.x ?_ ?_ ?_);rfl;rfl) | ((with_reducible refine z0g HGX.out.x ?_ ?_ ?_);rfl;rfl))
  go_ret
  exact⟨by rw [HA.out,qsg,qCP];rfl,HGX.out.below⟩
 go_wp2_with (first | ((with_reducible refine z0d HGX.out.x ?_ ?_ ?_);rfl;rfl) | ((with_reducible refine z0d HGX.out.y ?_ ?_ ?_);rfl;rfl) | ((with_reducible refine z0f HGX.out.x ?_ ?_ ?_);rfl;rfl) | ((with_reducible refine z0g HGX.out.x ?_ ?_ ?_);rfl;rfl))
 refine (HSM.out w5 HGX.out).mono ?_
 rintro e w6 ⟨rfl,hcb⟩
 have HB9:=hid (HGX.out.below.trans (hcb.mono HGX.out.below.size))
 clear hcb
 clear c0 c1 c2 c3 c4 c8 c9
 go_wp2_with fail
 go_ret
 exact⟨by rw [HA.out,qsg,qCP];rfl,HB9.out⟩
theorem rrec_good2 (r:Rv) (L:List Ln) (T:List Tk) (M:List Ln) (W:World) (hP:RvM W r L T M) (hok:Rxok (r.x L T M)) (h1:r.ln≤1000∧r.tn≤1000∧r.wn≤1000) (hk:r.k=2):Calls Tryz.prog 85 #[.agg (rcs r)] W fun e w'=>e=.returned (.bool (z1n (r.x L T M)))∧Below W.heap.size W w':=by
 have HOK:=hid hok
 have HP:=hid hP
 have HH:=hid h1
 clear hok hP h1
 obtain⟨W1,hW1,hb1⟩:∃ W1,W.alloc (.cells (rcs r) 42)=W1∧Below W.heap.size W W1:=⟨_,rfl,(Below.refl _ _).alloc (Nat.le_refl _) _⟩
 obtain⟨B,hB⟩:∃ B,W.heap.size=B:=⟨_,rfl⟩
 have hrb:=RB.new W r
 rw [hW1,hB] at hrb
 obtain⟨Y,hY⟩:∃ Y,W1.heap.size=Y:=⟨_,rfl⟩
 have hBY:B<Y:=by have:=hrb.lt;omega
 obtain⟨w1,hw1,hx1,hb1a⟩:∃ w1,W1.alloc (.cells zr 42)=w1∧RB w1 Y rz∧Below W1.heap.size W1 w1:=⟨_,rfl,by rw [← hY];exact z0c W1 _,(Below.refl _ _).alloc (Nat.le_refl _) _⟩
 have hG1:Gz W w1 B Y r rz:=⟨hrb.later hb1a,hx1,hb1.trans (hb1a.mono hb1.size),by omega,hBY⟩
 obtain⟨w2,hw2,hG2⟩:∃ w2,w1.setRow Y (rcs (rm 2 0 0 0 false 0 0 0 0 0))=w2∧Gz W w2 B Y r (rm 2 0 0 0 false 0 0 0 0 0):=⟨_,rfl,hG1.set _⟩
 have HX1:=hid hrb
 have HW1:=hid hW1
 have HRE:=hid hB
 have HYE:=hid hY
 have HW1a:=hid hw1
 have HXZ:=hid hx1
 have HW2:=hid hw2
 have HG2:=hid hG2
 have c0:W1.cell? ⟨B,0,none⟩=some (.int .u8 r.k):=z0a hrb rfl
 rw [hk] at c0
 clear hW1 hB hY hBY hw1 hx1 hb1a hG1 hw2 hG2 hb1 hrb
 have HHK:=hid hk
 go_enter Tryz.func85,Tryz.ntmps85
 go_upto_region 1 with (fail)
 rw [HW1.out,HRE.out]
 go_upto_region 2 with ((try rw [HYE.out]);(try rw [HW1a.out]);(with_reducible refine z1b (rm 2 0 0 0 false 0 0 0 0 0) HXZ.out ?_ ?_ ?_);rfl;rfl;rw [HW2.out])
 clear c0 HX1 HW1 HRE HYE HW1a HXZ HW2
 have c0:=HG2.out.cx (j:=0) (v:=.int .u8 r.k) rfl
 have c1:=HG2.out.cx (j:=1) (v:=.int .u32 r.sg) rfl
 have c2:=HG2.out.cx (j:=2) (v:=.int .u32 r.tx) rfl
 have c3:=HG2.out.cx (j:=3) (v:=.int .u8 r.st) rfl
 have c4:=HG2.out.cx (j:=4) (v:=.bool r.cp) rfl
 have c8:=HG2.out.cx (j:=8) (v:=.int .i64 r.d) rfl
 have c9:=HG2.out.cx (j:=9) (v:=.int .u8 r.o) rfl
 rw [hk] at c0
 obtain⟨cy,cf⟩:=HG2.out.cy (j:=1) (v:=.int .u32 0) rfl
 go_upto_region 11 with (fail)
 clear cy cf
 have hq:=HG2.out.put 1 (.int .u32 r.sg) (rm 2 r.sg 0 0 false 0 0 0 0 0) rfl
 generalize w2.setCell ⟨Y,1,none⟩ (.int .u32 r.sg)=w3 at *
 have HG3:=hid hq
 clear hq HG2
 clear c0 c1 c2 c3 c4 c8 c9
 have c0:=HG3.out.cx (j:=0) (v:=.int .u8 r.k) rfl
 have c1:=HG3.out.cx (j:=1) (v:=.int .u32 r.sg) rfl
 have c2:=HG3.out.cx (j:=2) (v:=.int .u32 r.tx) rfl
 have c3:=HG3.out.cx (j:=3) (v:=.int .u8 r.st) rfl
 have c4:=HG3.out.cx (j:=4) (v:=.bool r.cp) rfl
 have c8:=HG3.out.cx (j:=8) (v:=.int .i64 r.d) rfl
 have c9:=HG3.out.cx (j:=9) (v:=.int .u8 r.o) rfl
 rw [hk] at c0
 obtain⟨cy,cf⟩:=HG3.out.cy (j:=2) (v:=.int .u32 0) rfl
 go_upto_region 12 with (fail)
 clear cy cf
 have hq:=HG3.out.put 2 (.int .u32 r.tx) (rm 2 r.sg r.tx 0 false 0 0 0 0 0) rfl
 generalize w3.setCell ⟨Y,2,none⟩ (.int .u32 r.tx)=w4 at *
 have HG4:=hid hq
 clear hq HG3
 clear c0 c1 c2 c3 c4 c8 c9
 have c0:=HG4.out.cx (j:=0) (v:=.int .u8 r.k) rfl
 have c1:=HG4.out.cx (j:=1) (v:=.int .u32 r.sg) rfl
 have c2:=HG4.out.cx (j:=2) (v:=.int .u32 r.tx) rfl
 have c3:=HG4.out.cx (j:=3) (v:=.int .u8 r.st) rfl
 have c4:=HG4.out.cx (j:=4) (v:=.bool r.cp) rfl
 have c8:=HG4.out.cx (j:=8) (v:=.int .i64 r.d) rfl
 have c9:=HG4.out.cx (j:=9) (v:=.int .u8 r.o) rfl
 rw [hk] at c0
 obtain⟨cy,cf⟩:=HG4.out.cy (j:=3) (v:=.int .u8 0) rfl
 go_upto_region 13 with (fail)
 clear cy cf
 have hq:=HG4.out.put 3 (.int .u8 r.st) (rm 2 r.sg r.tx r.st false 0 0 0 0 0) rfl
 generalize w4.setCell ⟨Y,3,none⟩ (.int .u8 r.st)=w5 at *
 have HG5:=hid hq
 clear hq HG4
 clear c0 c1 c2 c3 c4 c8 c9
 have c0:=HG5.out.cx (j:=0) (v:=.int .u8 r.k) rfl
 have c1:=HG5.out.cx (j:=1) (v:=.int .u32 r.sg) rfl
 have c2:=HG5.out.cx (j:=2) (v:=.int .u32 r.tx) rfl
 have c3:=HG5.out.cx (j:=3) (v:=.int .u8 r.st) rfl
 have c4:=HG5.out.cx (j:=4) (v:=.bool r.cp) rfl
 have c8:=HG5.out.cx (j:=8) (v:=.int .i64 r.d) rfl
 have c9:=HG5.out.cx (j:=9) (v:=.int .u8 r.o) rfl
 rw [hk] at c0
 obtain⟨cy,cf⟩:=HG5.out.cy (j:=4) (v:=.bool false) rfl
 go_upto_region 14 with (fail)
 clear cy cf
 have hq:=HG5.out.put 4 (.bool r.cp) (rm 2 r.sg r.tx r.st r.cp 0 0 0 0 0) rfl
 generalize w5.setCell ⟨Y,4,none⟩ (.bool r.cp)=w6 at *
 have HG6:=hid hq
 clear hq HG5
 clear c0 c1 c2 c3 c4 c8 c9
 have c0:=HG6.out.cx (j:=0) (v:=.int .u8 r.k) rfl
 have c1:=HG6.out.cx (j:=1) (v:=.int .u32 r.sg) rfl
 have c2:=HG6.out.cx (j:=2) (v:=.int .u32 r.tx) rfl
 have c3:=HG6.out.cx (j:=3) (v:=.int .u8 r.st) rfl
 have c4:=HG6.out.cx (j:=4) (v:=.bool r.cp) rfl
 have c8:=HG6.out.cx (j:=8) (v:=.int .i64 r.d) rfl
 have c9:=HG6.out.cx (j:=9) (v:=.int .u8 r.o) rfl
 rw [hk] at c0
 have HA:Hid (z1n (r.x L T M)=((r.sg != 0) && (r.tx != 0) && decide (r.st<5) && decide (r.x L T M=(Rv.x (rm 2 r.sg r.tx r.st r.cp 0 0 0 0 0) [] [] [])))):=hid (by
  have e:r.x L T M=⟨2,r.sg,r.tx,r.st,r.cp,(r.ka,r.kb,r.kc),r.d,r.o,r.pg L T M⟩:=by unfold Rv.x;rw [hk]
  rw [e,gk2 _ _ _ _ _ _ _ _]
  rfl)
 obtain⟨z,hz⟩:∃ z,decide (r.x L T M=(Rv.x (rm 2 r.sg r.tx r.st r.cp 0 0 0 0 0) [] [] []))=z:=⟨_,rfl⟩
 rw [hz] at HA
 have HSM:=hid (fun w (h:Gz W w B Y r (rm 2 r.sg r.tx r.st r.cp 0 0 0 0 0))=>rrec_same r (rm 2 r.sg r.tx r.st r.cp 0 0 0 0 0) L T M [] [] [] w (HP.out.later h.below) (rm_lists _ _ _ _ _ _ _ _ _ _ _) HH.out ⟨Nat.zero_le _,Nat.zero_le _,Nat.zero_le _⟩)
 rw [hz] at HSM
 clear hz hk
 have HGX:=HG6
 clear HG6
 cases qsg:(r.sg != 0)
 case false =>
  go_wp2_with (first | ((with_reducible refine z0d HGX.out.x ?_ ?_ ?_);rfl;rfl) | ((with_reducible refine z0d HGX.out.y ?_ ?_ ?_);rfl;rfl) | ((with_reducible refine z0f HGX.out.x ?_ ?_ ?_);rfl;rfl) | ((with_reducible refine z0g HGX.out.x ?_ ?_ ?_);rfl;rfl))
  go_ret
  exact⟨by rw [HA.out,qsg];rfl,HGX.out.below⟩
 cases qtx:(r.tx != 0)
 case false =>
  go_wp2_with (first | ((with_reducible refine z0d HGX.out.x ?_ ?_ ?_);rfl;rfl) | ((with_reducible refine z0d HGX.out.y ?_ ?_ ?_);rfl;rfl) | ((with_reducible refine z0f HGX.out.x ?_ ?_ ?_);rfl;rfl) | ((with_reducible refine z0g HGX.out.x ?_ ?_ ?_);rfl;rfl))
  go_ret
  exact⟨by rw [HA.out,qsg,qtx];rfl,HGX.out.below⟩
 cases qLT:decide (r.st<5)
 case false =>
  go_wp2_with (first | ((with_reducible refine z0d HGX.out.x ?_ ?_ ?_);rfl;rfl) | ((with_reducible refine z0d HGX.out.y ?_ ?_ ?_);rfl;rfl) | ((with_reducible refine z0f HGX.out.x ?_ ?_ ?_);rfl;rfl) | ((with_reducible refine z0g HGX.out.x ?_ ?_ ?_);rfl;rfl))
  go_ret
  exact⟨by rw [HA.out,qsg,qtx,qLT];rfl,HGX.out.below⟩
 go_wp2_with (first | ((with_reducible refine z0d HGX.out.x ?_ ?_ ?_);rfl;rfl) | ((with_reducible refine z0d HGX.out.y ?_ ?_ ?_);rfl;rfl) | ((with_reducible refine z0f HGX.out.x ?_ ?_ ?_);rfl;rfl) | ((with_reducible refine z0g HGX.out.x ?_ ?_ ?_);rfl;rfl))
 refine (HSM.out w6 HGX.out).mono ?_
 rintro e w7 ⟨rfl,hcb⟩
 have HB9:=hid (HGX.out.below.trans (hcb.mono HGX.out.below.size))
 clear hcb
 clear c0 c1 c2 c3 c4 c8 c9
 go_wp2_with fail
 go_ret
 exact⟨by rw [HA.out,qsg,qtx,qLT];rfl,HB9.out⟩
theorem rrec_good3 (r:Rv) (L:List Ln) (T:List Tk) (M:List Ln) (W:World) (hP:RvM W r L T M) (hok:Rxok (r.x L T M)) (h1:r.ln≤1000∧r.tn≤1000∧r.wn≤1000) (hk:r.k=3):Calls Tryz.prog 85 #[.agg (rcs r)] W fun e w'=>e=.returned (.bool (z1n (r.x L T M)))∧Below W.heap.size W w':=by
 have HOK:=hid hok
 have HP:=hid hP
 have HH:=hid h1
 clear hok hP h1
 obtain⟨W1,hW1,hb1⟩:∃ W1,W.alloc (.cells (rcs r) 42)=W1∧Below W.heap.size W W1:=⟨_,rfl,(Below.refl _ _).alloc (Nat.le_refl _) _⟩
 obtain⟨B,hB⟩:∃ B,W.heap.size=B:=⟨_,rfl⟩
 have hrb:=RB.new W r
 rw [hW1,hB] at hrb
 obtain⟨Y,hY⟩:∃ Y,W1.heap.size=Y:=⟨_,rfl⟩
 have hBY:B<Y:=by have:=hrb.lt;omega
 obtain⟨w1,hw1,hx1,hb1a⟩:∃ w1,W1.alloc (.cells zr 42)=w1∧RB w1 Y rz∧Below W1.heap.size W1 w1:=⟨_,rfl,by rw [← hY];exact z0c W1 _,(Below.refl _ _).alloc (Nat.le_refl _) _⟩
 have hG1:Gz W w1 B Y r rz:=⟨hrb.later hb1a,hx1,hb1.trans (hb1a.mono hb1.size),by omega,hBY⟩
 obtain⟨w2,hw2,hG2⟩:∃ w2,w1.setRow Y (rcs (rm 3 0 0 0 false 0 0 0 0 0))=w2∧Gz W w2 B Y r (rm 3 0 0 0 false 0 0 0 0 0):=⟨_,rfl,hG1.set _⟩
 have HX1:=hid hrb
 have HW1:=hid hW1
 have HRE:=hid hB
 have HYE:=hid hY
 have HW1a:=hid hw1
 have HXZ:=hid hx1
 have HW2:=hid hw2
 have HG2:=hid hG2
 have c0:W1.cell? ⟨B,0,none⟩=some (.int .u8 r.k):=z0a hrb rfl
 rw [hk] at c0
 clear hW1 hB hY hBY hw1 hx1 hb1a hG1 hw2 hG2 hb1 hrb
 have HHK:=hid hk
 go_enter Tryz.func85,Tryz.ntmps85
 go_upto_region 1 with (fail)
 rw [HW1.out,HRE.out]
 go_upto_region 2 with ((try rw [HYE.out]);(try rw [HW1a.out]);(with_reducible refine z1b (rm 3 0 0 0 false 0 0 0 0 0) HXZ.out ?_ ?_ ?_);rfl;rfl;rw [HW2.out])
 clear c0 HX1 HW1 HRE HYE HW1a HXZ HW2
 have c0:=HG2.out.cx (j:=0) (v:=.int .u8 r.k) rfl
 have c1:=HG2.out.cx (j:=1) (v:=.int .u32 r.sg) rfl
 have c2:=HG2.out.cx (j:=2) (v:=.int .u32 r.tx) rfl
 have c3:=HG2.out.cx (j:=3) (v:=.int .u8 r.st) rfl
 have c4:=HG2.out.cx (j:=4) (v:=.bool r.cp) rfl
 have c8:=HG2.out.cx (j:=8) (v:=.int .i64 r.d) rfl
 have c9:=HG2.out.cx (j:=9) (v:=.int .u8 r.o) rfl
 rw [hk] at c0
 obtain⟨cy,cf⟩:=HG2.out.cy (j:=2) (v:=.int .u32 0) rfl
 go_upto_region 18 with (fail)
 clear cy cf
 have hq:=HG2.out.put 2 (.int .u32 r.tx) (rm 3 0 r.tx 0 false 0 0 0 0 0) rfl
 generalize w2.setCell ⟨Y,2,none⟩ (.int .u32 r.tx)=w3 at *
 have HG3:=hid hq
 clear hq HG2
 clear c0 c1 c2 c3 c4 c8 c9
 have c0:=HG3.out.cx (j:=0) (v:=.int .u8 r.k) rfl
 have c1:=HG3.out.cx (j:=1) (v:=.int .u32 r.sg) rfl
 have c2:=HG3.out.cx (j:=2) (v:=.int .u32 r.tx) rfl
 have c3:=HG3.out.cx (j:=3) (v:=.int .u8 r.st) rfl
 have c4:=HG3.out.cx (j:=4) (v:=.bool r.cp) rfl
 have c8:=HG3.out.cx (j:=8) (v:=.int .i64 r.d) rfl
 have c9:=HG3.out.cx (j:=9) (v:=.int .u8 r.o) rfl
 rw [hk] at c0
 obtain⟨w4,hgen,hq⟩:∃ w4,w3.setRow Y (rcs { (rm 3 0 r.tx 0 false 0 0 0 0 0) with ka:=r.ka,kb:=r.kb,kc:=r.kc })=w4∧Gz W w4 B Y r (rm 3 0 r.tx 0 false r.ka r.kb r.kc 0 0):=⟨_,rfl,HG3.out.set (rm 3 0 r.tx 0 false r.ka r.kb r.kc 0 0)⟩
 have HGEN:=hid hgen
 have HG4:=hid hq
 clear hgen hq
 go_upto_region 19 with (first | ((with_reducible refine z2c HG3.out.x ?_ ?_);rfl) | ((with_reducible refine wpList_store_ky r.ka r.kb r.kc HG3.out.y ?_ ?_ ?_);rfl;rfl;rw [HGEN.out]))
 clear HGEN HG3
 clear c0 c1 c2 c3 c4 c8 c9
 have c0:=HG4.out.cx (j:=0) (v:=.int .u8 r.k) rfl
 have c1:=HG4.out.cx (j:=1) (v:=.int .u32 r.sg) rfl
 have c2:=HG4.out.cx (j:=2) (v:=.int .u32 r.tx) rfl
 have c3:=HG4.out.cx (j:=3) (v:=.int .u8 r.st) rfl
 have c4:=HG4.out.cx (j:=4) (v:=.bool r.cp) rfl
 have c8:=HG4.out.cx (j:=8) (v:=.int .i64 r.d) rfl
 have c9:=HG4.out.cx (j:=9) (v:=.int .u8 r.o) rfl
 rw [hk] at c0
 obtain⟨cy,cf⟩:=HG4.out.cy (j:=8) (v:=.int .i64 0) rfl
 go_upto_region 20 with (fail)
 clear cy cf
 have hq:=HG4.out.put 8 (.int .i64 r.d) (rm 3 0 r.tx 0 false r.ka r.kb r.kc r.d 0) rfl
 generalize w4.setCell ⟨Y,8,none⟩ (.int .i64 r.d)=w5 at *
 have HG5:=hid hq
 clear hq HG4
 clear c0 c1 c2 c3 c4 c8 c9
 have c0:=HG5.out.cx (j:=0) (v:=.int .u8 r.k) rfl
 have c1:=HG5.out.cx (j:=1) (v:=.int .u32 r.sg) rfl
 have c2:=HG5.out.cx (j:=2) (v:=.int .u32 r.tx) rfl
 have c3:=HG5.out.cx (j:=3) (v:=.int .u8 r.st) rfl
 have c4:=HG5.out.cx (j:=4) (v:=.bool r.cp) rfl
 have c8:=HG5.out.cx (j:=8) (v:=.int .i64 r.d) rfl
 have c9:=HG5.out.cx (j:=9) (v:=.int .u8 r.o) rfl
 rw [hk] at c0
 have HA:Hid (z1n (r.x L T M)=((r.tx != 0) && goodB 4 4 r.ka r.kb r.kc && (r.d != 0) && decide (-9223372036854775807≤r.d) && decide (r.x L T M=(Rv.x (rm 3 0 r.tx 0 false r.ka r.kb r.kc r.d 0) [] [] [])))):=hid (by
  have e:r.x L T M=⟨3,r.sg,r.tx,r.st,r.cp,(r.ka,r.kb,r.kc),r.d,r.o,r.pg L T M⟩:=by unfold Rv.x;rw [hk]
  rw [e,gk3 _ _ _ _ _ _ _ _ (show In64 r.d from HOK.out.d)]
  rfl)
 obtain⟨z,hz⟩:∃ z,decide (r.x L T M=(Rv.x (rm 3 0 r.tx 0 false r.ka r.kb r.kc r.d 0) [] [] []))=z:=⟨_,rfl⟩
 rw [hz] at HA
 have HSM:=hid (fun w (h:Gz W w B Y r (rm 3 0 r.tx 0 false r.ka r.kb r.kc r.d 0))=>rrec_same r (rm 3 0 r.tx 0 false r.ka r.kb r.kc r.d 0) L T M [] [] [] w (HP.out.later h.below) (rm_lists _ _ _ _ _ _ _ _ _ _ _) HH.out ⟨Nat.zero_le _,Nat.zero_le _,Nat.zero_le _⟩)
 rw [hz] at HSM
 clear hz hk
 have HGX:=HG5
 clear HG5
 cases qtx:(r.tx != 0)
 case false =>
  go_wp2_with (first | ((with_reducible refine z0d HGX.out.x ?_ ?_ ?_);rfl;rfl) | ((with_reducible refine z0d HGX.out.y ?_ ?_ ?_);rfl;rfl) | ((with_reducible refine z0f HGX.out.x ?_ ?_ ?_);rfl;rfl) | ((with_reducible refine z0g HGX.out.x ?_ ?_ ?_);rfl;rfl))
  go_ret
  exact⟨by rw [HA.out,qtx];rfl,HGX.out.below⟩
 go_wp2_with (first | ((with_reducible refine z0d HGX.out.x ?_ ?_ ?_);rfl;rfl) | ((with_reducible refine z0d HGX.out.y ?_ ?_ ?_);rfl;rfl) | ((with_reducible refine z0f HGX.out.x ?_ ?_ ?_);rfl;rfl) | ((with_reducible refine z0g HGX.out.x ?_ ?_ ?_);rfl;rfl))
 refine (refgood_any 4 4 r.ka r.kb r.kc HOK.out.key.2.1 HOK.out.key.2.2 w5).mono ?_
 rintro e w6 ⟨rfl,hgr⟩
 have hcb:=hgr.below
 clear hgr
 have HGX:=hid (HGX.out.later hcb)
 clear hcb
 clear c0 c1 c2 c3 c4 c8 c9
 have c0:=HGX.out.cx (j:=0) (v:=.int .u8 r.k) rfl
 have c1:=HGX.out.cx (j:=1) (v:=.int .u32 r.sg) rfl
 have c2:=HGX.out.cx (j:=2) (v:=.int .u32 r.tx) rfl
 have c3:=HGX.out.cx (j:=3) (v:=.int .u8 r.st) rfl
 have c4:=HGX.out.cx (j:=4) (v:=.bool r.cp) rfl
 have c8:=HGX.out.cx (j:=8) (v:=.int .i64 r.d) rfl
 have c9:=HGX.out.cx (j:=9) (v:=.int .u8 r.o) rfl
 rw [HHK.out] at c0
 cases qCK:goodB 4 4 r.ka r.kb r.kc
 case false =>
  go_wp2_with (first | ((with_reducible refine z0d HGX.out.x ?_ ?_ ?_);rfl;rfl) | ((with_reducible refine z0d HGX.out.y ?_ ?_ ?_);rfl;rfl) | ((with_reducible refine z0f HGX.out.x ?_ ?_ ?_);rfl;rfl) | ((with_reducible refine z0g HGX.out.x ?_ ?_ ?_);rfl;rfl))
  go_ret
  exact⟨by rw [HA.out,qtx,qCK];rfl,HGX.out.below⟩
 cases qdn:(r.d != 0)
 case false =>
  go_wp2_with (first | ((with_reducible refine z0d HGX.out.x ?_ ?_ ?_);rfl;rfl) | ((with_reducible refine z0d HGX.out.y ?_ ?_ ?_);rfl;rfl) | ((with_reducible refine z0f HGX.out.x ?_ ?_ ?_);rfl;rfl) | ((with_reducible refine z0g HGX.out.x ?_ ?_ ?_);rfl;rfl))
  go_ret
  exact⟨by rw [HA.out,qtx,qCK,qdn];rfl,HGX.out.below⟩
 cases qdg:decide (-9223372036854775807≤r.d)
 case false =>
  go_wp2_with (first | ((with_reducible refine z0d HGX.out.x ?_ ?_ ?_);rfl;rfl) | ((with_reducible refine z0d HGX.out.y ?_ ?_ ?_);rfl;rfl) | ((with_reducible refine z0f HGX.out.x ?_ ?_ ?_);rfl;rfl) | ((with_reducible refine z0g HGX.out.x ?_ ?_ ?_);rfl;rfl))
  go_ret
  exact⟨by rw [HA.out,qtx,qCK,qdn,qdg];rfl,HGX.out.below⟩
 go_wp2_with (first | ((with_reducible refine z0d HGX.out.x ?_ ?_ ?_);rfl;rfl) | ((with_reducible refine z0d HGX.out.y ?_ ?_ ?_);rfl;rfl) | ((with_reducible refine z0f HGX.out.x ?_ ?_ ?_);rfl;rfl) | ((with_reducible refine z0g HGX.out.x ?_ ?_ ?_);rfl;rfl))
 refine (HSM.out w6 HGX.out).mono ?_
 rintro e w7 ⟨rfl,hcb⟩
 have HB9:=hid (HGX.out.below.trans (hcb.mono HGX.out.below.size))
 clear hcb
 clear c0 c1 c2 c3 c4 c8 c9
 go_wp2_with fail
 go_ret
 exact⟨by rw [HA.out,qtx,qCK,qdn,qdg];rfl,HB9.out⟩
theorem rrec_good4 (r:Rv) (L:List Ln) (T:List Tk) (M:List Ln) (W:World) (hP:RvM W r L T M) (hok:Rxok (r.x L T M)) (h1:r.ln≤1000∧r.tn≤1000∧r.wn≤1000) (hk:r.k=4):Calls Tryz.prog 85 #[.agg (rcs r)] W fun e w'=>e=.returned (.bool (z1n (r.x L T M)))∧Below W.heap.size W w':=by
 have HOK:=hid hok
 have HP:=hid hP
 have HH:=hid h1
 clear hok hP h1
 obtain⟨W1,hW1,hb1⟩:∃ W1,W.alloc (.cells (rcs r) 42)=W1∧Below W.heap.size W W1:=⟨_,rfl,(Below.refl _ _).alloc (Nat.le_refl _) _⟩
 obtain⟨B,hB⟩:∃ B,W.heap.size=B:=⟨_,rfl⟩
 have hrb:=RB.new W r
 rw [hW1,hB] at hrb
 obtain⟨Y,hY⟩:∃ Y,W1.heap.size=Y:=⟨_,rfl⟩
 have hBY:B<Y:=by have:=hrb.lt;omega
 obtain⟨w1,hw1,hx1,hb1a⟩:∃ w1,W1.alloc (.cells zr 42)=w1∧RB w1 Y rz∧Below W1.heap.size W1 w1:=⟨_,rfl,by rw [← hY];exact z0c W1 _,(Below.refl _ _).alloc (Nat.le_refl _) _⟩
 have hG1:Gz W w1 B Y r rz:=⟨hrb.later hb1a,hx1,hb1.trans (hb1a.mono hb1.size),by omega,hBY⟩
 obtain⟨w2,hw2,hG2⟩:∃ w2,w1.setRow Y (rcs (rm 4 0 0 0 false 0 0 0 0 0))=w2∧Gz W w2 B Y r (rm 4 0 0 0 false 0 0 0 0 0):=⟨_,rfl,hG1.set _⟩
 have HX1:=hid hrb
 have HW1:=hid hW1
 have HRE:=hid hB
 have HYE:=hid hY
 have HW1a:=hid hw1
 have HXZ:=hid hx1
 have HW2:=hid hw2
 have HG2:=hid hG2
 have c0:W1.cell? ⟨B,0,none⟩=some (.int .u8 r.k):=z0a hrb rfl
 rw [hk] at c0
 clear hW1 hB hY hBY hw1 hx1 hb1a hG1 hw2 hG2 hb1 hrb
 have HHK:=hid hk
 go_enter Tryz.func85,Tryz.ntmps85
 go_upto_region 1 with (fail)
 rw [HW1.out,HRE.out]
 go_upto_region 2 with ((try rw [HYE.out]);(try rw [HW1a.out]);(with_reducible refine z1b (rm 4 0 0 0 false 0 0 0 0 0) HXZ.out ?_ ?_ ?_);rfl;rfl;rw [HW2.out])
 clear c0 HX1 HW1 HRE HYE HW1a HXZ HW2
 have c0:=HG2.out.cx (j:=0) (v:=.int .u8 r.k) rfl
 have c1:=HG2.out.cx (j:=1) (v:=.int .u32 r.sg) rfl
 have c2:=HG2.out.cx (j:=2) (v:=.int .u32 r.tx) rfl
 have c3:=HG2.out.cx (j:=3) (v:=.int .u8 r.st) rfl
 have c4:=HG2.out.cx (j:=4) (v:=.bool r.cp) rfl
 have c8:=HG2.out.cx (j:=8) (v:=.int .i64 r.d) rfl
 have c9:=HG2.out.cx (j:=9) (v:=.int .u8 r.o) rfl
 rw [hk] at c0
 obtain⟨cy,cf⟩:=HG2.out.cy (j:=2) (v:=.int .u32 0) rfl
 go_upto_region 25 with (fail)
 clear cy cf
 have hq:=HG2.out.put 2 (.int .u32 r.tx) (rm 4 0 r.tx 0 false 0 0 0 0 0) rfl
 generalize w2.setCell ⟨Y,2,none⟩ (.int .u32 r.tx)=w3 at *
 have HG3:=hid hq
 clear hq HG2
 clear c0 c1 c2 c3 c4 c8 c9
 have c0:=HG3.out.cx (j:=0) (v:=.int .u8 r.k) rfl
 have c1:=HG3.out.cx (j:=1) (v:=.int .u32 r.sg) rfl
 have c2:=HG3.out.cx (j:=2) (v:=.int .u32 r.tx) rfl
 have c3:=HG3.out.cx (j:=3) (v:=.int .u8 r.st) rfl
 have c4:=HG3.out.cx (j:=4) (v:=.bool r.cp) rfl
 have c8:=HG3.out.cx (j:=8) (v:=.int .i64 r.d) rfl
 have c9:=HG3.out.cx (j:=9) (v:=.int .u8 r.o) rfl
 rw [hk] at c0
 have HA:Hid (z1n (r.x L T M)=((r.tx != 0) && decide (r.x L T M=(Rv.x (rm 4 0 r.tx 0 false 0 0 0 0 0) [] [] [])))):=hid (by
  have e:r.x L T M=⟨4,r.sg,r.tx,r.st,r.cp,(r.ka,r.kb,r.kc),r.d,r.o,r.pg L T M⟩:=by unfold Rv.x;rw [hk]
  rw [e,gk4 _ _ _ _ _ _ _ _ _ (Or.inl rfl)]
  rfl)
 obtain⟨z,hz⟩:∃ z,decide (r.x L T M=(Rv.x (rm 4 0 r.tx 0 false 0 0 0 0 0) [] [] []))=z:=⟨_,rfl⟩
 rw [hz] at HA
 have HSM:=hid (fun w (h:Gz W w B Y r (rm 4 0 r.tx 0 false 0 0 0 0 0))=>rrec_same r (rm 4 0 r.tx 0 false 0 0 0 0 0) L T M [] [] [] w (HP.out.later h.below) (rm_lists _ _ _ _ _ _ _ _ _ _ _) HH.out ⟨Nat.zero_le _,Nat.zero_le _,Nat.zero_le _⟩)
 rw [hz] at HSM
 clear hz hk
 have HGX:=HG3
 clear HG3
 cases qtx:(r.tx != 0)
 case false =>
  go_wp2_with (first | ((with_reducible refine z0d HGX.out.x ?_ ?_ ?_);rfl;rfl) | ((with_reducible refine z0d HGX.out.y ?_ ?_ ?_);rfl;rfl) | ((with_reducible refine z0f HGX.out.x ?_ ?_ ?_);rfl;rfl) | ((with_reducible refine z0g HGX.out.x ?_ ?_ ?_);rfl;rfl))
  go_ret
  exact⟨by rw [HA.out,qtx];rfl,HGX.out.below⟩
 go_wp2_with (first | ((with_reducible refine z0d HGX.out.x ?_ ?_ ?_);rfl;rfl) | ((with_reducible refine z0d HGX.out.y ?_ ?_ ?_);rfl;rfl) | ((with_reducible refine z0f HGX.out.x ?_ ?_ ?_);rfl;rfl) | ((with_reducible refine z0g HGX.out.x ?_ ?_ ?_);rfl;rfl))
 refine (HSM.out w3 HGX.out).mono ?_
 rintro e w4 ⟨rfl,hcb⟩
 have HB9:=hid (HGX.out.below.trans (hcb.mono HGX.out.below.size))
 clear hcb
 clear c0 c1 c2 c3 c4 c8 c9
 go_wp2_with fail
 go_ret
 exact⟨by rw [HA.out,qtx];rfl,HB9.out⟩
theorem rrec_good5 (r:Rv) (L:List Ln) (T:List Tk) (M:List Ln) (W:World) (hP:RvM W r L T M) (hok:Rxok (r.x L T M)) (h1:r.ln≤1000∧r.tn≤1000∧r.wn≤1000) (hk:r.k=5):Calls Tryz.prog 85 #[.agg (rcs r)] W fun e w'=>e=.returned (.bool (z1n (r.x L T M)))∧Below W.heap.size W w':=by
 have HOK:=hid hok
 have HP:=hid hP
 have HH:=hid h1
 clear hok hP h1
 obtain⟨W1,hW1,hb1⟩:∃ W1,W.alloc (.cells (rcs r) 42)=W1∧Below W.heap.size W W1:=⟨_,rfl,(Below.refl _ _).alloc (Nat.le_refl _) _⟩
 obtain⟨B,hB⟩:∃ B,W.heap.size=B:=⟨_,rfl⟩
 have hrb:=RB.new W r
 rw [hW1,hB] at hrb
 obtain⟨Y,hY⟩:∃ Y,W1.heap.size=Y:=⟨_,rfl⟩
 have hBY:B<Y:=by have:=hrb.lt;omega
 obtain⟨w1,hw1,hx1,hb1a⟩:∃ w1,W1.alloc (.cells zr 42)=w1∧RB w1 Y rz∧Below W1.heap.size W1 w1:=⟨_,rfl,by rw [← hY];exact z0c W1 _,(Below.refl _ _).alloc (Nat.le_refl _) _⟩
 have hG1:Gz W w1 B Y r rz:=⟨hrb.later hb1a,hx1,hb1.trans (hb1a.mono hb1.size),by omega,hBY⟩
 obtain⟨w2,hw2,hG2⟩:∃ w2,w1.setRow Y (rcs (rm 5 0 0 0 false 0 0 0 0 0))=w2∧Gz W w2 B Y r (rm 5 0 0 0 false 0 0 0 0 0):=⟨_,rfl,hG1.set _⟩
 have HX1:=hid hrb
 have HW1:=hid hW1
 have HRE:=hid hB
 have HYE:=hid hY
 have HW1a:=hid hw1
 have HXZ:=hid hx1
 have HW2:=hid hw2
 have HG2:=hid hG2
 have c0:W1.cell? ⟨B,0,none⟩=some (.int .u8 r.k):=z0a hrb rfl
 rw [hk] at c0
 clear hW1 hB hY hBY hw1 hx1 hb1a hG1 hw2 hG2 hb1 hrb
 have HHK:=hid hk
 go_enter Tryz.func85,Tryz.ntmps85
 go_upto_region 1 with (fail)
 rw [HW1.out,HRE.out]
 go_upto_region 2 with ((try rw [HYE.out]);(try rw [HW1a.out]);(with_reducible refine z1b (rm 5 0 0 0 false 0 0 0 0 0) HXZ.out ?_ ?_ ?_);rfl;rfl;rw [HW2.out])
 clear c0 HX1 HW1 HRE HYE HW1a HXZ HW2
 have c0:=HG2.out.cx (j:=0) (v:=.int .u8 r.k) rfl
 have c1:=HG2.out.cx (j:=1) (v:=.int .u32 r.sg) rfl
 have c2:=HG2.out.cx (j:=2) (v:=.int .u32 r.tx) rfl
 have c3:=HG2.out.cx (j:=3) (v:=.int .u8 r.st) rfl
 have c4:=HG2.out.cx (j:=4) (v:=.bool r.cp) rfl
 have c8:=HG2.out.cx (j:=8) (v:=.int .i64 r.d) rfl
 have c9:=HG2.out.cx (j:=9) (v:=.int .u8 r.o) rfl
 rw [hk] at c0
 obtain⟨cy,cf⟩:=HG2.out.cy (j:=2) (v:=.int .u32 0) rfl
 go_upto_region 25 with (fail)
 clear cy cf
 have hq:=HG2.out.put 2 (.int .u32 r.tx) (rm 5 0 r.tx 0 false 0 0 0 0 0) rfl
 generalize w2.setCell ⟨Y,2,none⟩ (.int .u32 r.tx)=w3 at *
 have HG3:=hid hq
 clear hq HG2
 clear c0 c1 c2 c3 c4 c8 c9
 have c0:=HG3.out.cx (j:=0) (v:=.int .u8 r.k) rfl
 have c1:=HG3.out.cx (j:=1) (v:=.int .u32 r.sg) rfl
 have c2:=HG3.out.cx (j:=2) (v:=.int .u32 r.tx) rfl
 have c3:=HG3.out.cx (j:=3) (v:=.int .u8 r.st) rfl
 have c4:=HG3.out.cx (j:=4) (v:=.bool r.cp) rfl
 have c8:=HG3.out.cx (j:=8) (v:=.int .i64 r.d) rfl
 have c9:=HG3.out.cx (j:=9) (v:=.int .u8 r.o) rfl
 rw [hk] at c0
 have HA:Hid (z1n (r.x L T M)=((r.tx != 0) && decide (r.x L T M=(Rv.x (rm 5 0 r.tx 0 false 0 0 0 0 0) [] [] [])))):=hid (by
  have e:r.x L T M=⟨5,r.sg,r.tx,r.st,r.cp,(r.ka,r.kb,r.kc),r.d,r.o,r.pg L T M⟩:=by unfold Rv.x;rw [hk]
  rw [e,gk4 _ _ _ _ _ _ _ _ _ (Or.inr (Or.inl rfl))]
  rfl)
 obtain⟨z,hz⟩:∃ z,decide (r.x L T M=(Rv.x (rm 5 0 r.tx 0 false 0 0 0 0 0) [] [] []))=z:=⟨_,rfl⟩
 rw [hz] at HA
 have HSM:=hid (fun w (h:Gz W w B Y r (rm 5 0 r.tx 0 false 0 0 0 0 0))=>rrec_same r (rm 5 0 r.tx 0 false 0 0 0 0 0) L T M [] [] [] w (HP.out.later h.below) (rm_lists _ _ _ _ _ _ _ _ _ _ _) HH.out ⟨Nat.zero_le _,Nat.zero_le _,Nat.zero_le _⟩)
 rw [hz] at HSM
 clear hz hk
 have HGX:=HG3
 clear HG3
 cases qtx:(r.tx != 0)
 case false =>
  go_wp2_with (first | ((with_reducible refine z0d HGX.out.x ?_ ?_ ?_);rfl;rfl) | ((with_reducible refine z0d HGX.out.y ?_ ?_ ?_);rfl;rfl) | ((with_reducible refine z0f HGX.out.x ?_ ?_ ?_);rfl;rfl) | ((with_reducible refine z0g HGX.out.x ?_ ?_ ?_);rfl;rfl))
  go_ret
  exact⟨by rw [HA.out,qtx];rfl,HGX.out.below⟩
 go_wp2_with (first | ((with_reducible refine z0d HGX.out.x ?_ ?_ ?_);rfl;rfl) | ((with_reducible refine z0d HGX.out.y ?_ ?_ ?_);rfl;rfl) | ((with_reducible refine z0f HGX.out.x ?_ ?_ ?_);rfl;rfl) | ((with_reducible refine z0g HGX.out.x ?_ ?_ ?_);rfl;rfl))
 refine (HSM.out w3 HGX.out).mono ?_
 rintro e w4 ⟨rfl,hcb⟩
 have HB9:=hid (HGX.out.below.trans (hcb.mono HGX.out.below.size))
 clear hcb
 clear c0 c1 c2 c3 c4 c8 c9
 go_wp2_with fail
 go_ret
 exact⟨by rw [HA.out,qtx];rfl,HB9.out⟩
theorem rrec_good6 (r:Rv) (L:List Ln) (T:List Tk) (M:List Ln) (W:World) (hP:RvM W r L T M) (hok:Rxok (r.x L T M)) (h1:r.ln≤1000∧r.tn≤1000∧r.wn≤1000) (hk:r.k=6):Calls Tryz.prog 85 #[.agg (rcs r)] W fun e w'=>e=.returned (.bool (z1n (r.x L T M)))∧Below W.heap.size W w':=by
 have HOK:=hid hok
 have HP:=hid hP
 have HH:=hid h1
 clear hok hP h1
 obtain⟨W1,hW1,hb1⟩:∃ W1,W.alloc (.cells (rcs r) 42)=W1∧Below W.heap.size W W1:=⟨_,rfl,(Below.refl _ _).alloc (Nat.le_refl _) _⟩
 obtain⟨B,hB⟩:∃ B,W.heap.size=B:=⟨_,rfl⟩
 have hrb:=RB.new W r
 rw [hW1,hB] at hrb
 obtain⟨Y,hY⟩:∃ Y,W1.heap.size=Y:=⟨_,rfl⟩
 have hBY:B<Y:=by have:=hrb.lt;omega
 obtain⟨w1,hw1,hx1,hb1a⟩:∃ w1,W1.alloc (.cells zr 42)=w1∧RB w1 Y rz∧Below W1.heap.size W1 w1:=⟨_,rfl,by rw [← hY];exact z0c W1 _,(Below.refl _ _).alloc (Nat.le_refl _) _⟩
 have hG1:Gz W w1 B Y r rz:=⟨hrb.later hb1a,hx1,hb1.trans (hb1a.mono hb1.size),by omega,hBY⟩
 obtain⟨w2,hw2,hG2⟩:∃ w2,w1.setRow Y (rcs (rm 6 0 0 0 false 0 0 0 0 0))=w2∧Gz W w2 B Y r (rm 6 0 0 0 false 0 0 0 0 0):=⟨_,rfl,hG1.set _⟩
 have HX1:=hid hrb
 have HW1:=hid hW1
 have HRE:=hid hB
 have HYE:=hid hY
 have HW1a:=hid hw1
 have HXZ:=hid hx1
 have HW2:=hid hw2
 have HG2:=hid hG2
 have c0:W1.cell? ⟨B,0,none⟩=some (.int .u8 r.k):=z0a hrb rfl
 rw [hk] at c0
 clear hW1 hB hY hBY hw1 hx1 hb1a hG1 hw2 hG2 hb1 hrb
 have HHK:=hid hk
 go_enter Tryz.func85,Tryz.ntmps85
 go_upto_region 1 with (fail)
 rw [HW1.out,HRE.out]
 go_upto_region 2 with ((try rw [HYE.out]);(try rw [HW1a.out]);(with_reducible refine z1b (rm 6 0 0 0 false 0 0 0 0 0) HXZ.out ?_ ?_ ?_);rfl;rfl;rw [HW2.out])
 clear c0 HX1 HW1 HRE HYE HW1a HXZ HW2
 have c0:=HG2.out.cx (j:=0) (v:=.int .u8 r.k) rfl
 have c1:=HG2.out.cx (j:=1) (v:=.int .u32 r.sg) rfl
 have c2:=HG2.out.cx (j:=2) (v:=.int .u32 r.tx) rfl
 have c3:=HG2.out.cx (j:=3) (v:=.int .u8 r.st) rfl
 have c4:=HG2.out.cx (j:=4) (v:=.bool r.cp) rfl
 have c8:=HG2.out.cx (j:=8) (v:=.int .i64 r.d) rfl
 have c9:=HG2.out.cx (j:=9) (v:=.int .u8 r.o) rfl
 rw [hk] at c0
 obtain⟨cy,cf⟩:=HG2.out.cy (j:=2) (v:=.int .u32 0) rfl
 go_upto_region 18 with (fail)
 clear cy cf
 have hq:=HG2.out.put 2 (.int .u32 r.tx) (rm 6 0 r.tx 0 false 0 0 0 0 0) rfl
 generalize w2.setCell ⟨Y,2,none⟩ (.int .u32 r.tx)=w3 at *
 have HG3:=hid hq
 clear hq HG2
 clear c0 c1 c2 c3 c4 c8 c9
 have c0:=HG3.out.cx (j:=0) (v:=.int .u8 r.k) rfl
 have c1:=HG3.out.cx (j:=1) (v:=.int .u32 r.sg) rfl
 have c2:=HG3.out.cx (j:=2) (v:=.int .u32 r.tx) rfl
 have c3:=HG3.out.cx (j:=3) (v:=.int .u8 r.st) rfl
 have c4:=HG3.out.cx (j:=4) (v:=.bool r.cp) rfl
 have c8:=HG3.out.cx (j:=8) (v:=.int .i64 r.d) rfl
 have c9:=HG3.out.cx (j:=9) (v:=.int .u8 r.o) rfl
 rw [hk] at c0
 obtain⟨w4,hgen,hq⟩:∃ w4,w3.setRow Y (rcs { (rm 6 0 r.tx 0 false 0 0 0 0 0) with ka:=r.ka,kb:=r.kb,kc:=r.kc })=w4∧Gz W w4 B Y r (rm 6 0 r.tx 0 false r.ka r.kb r.kc 0 0):=⟨_,rfl,HG3.out.set (rm 6 0 r.tx 0 false r.ka r.kb r.kc 0 0)⟩
 have HGEN:=hid hgen
 have HG4:=hid hq
 clear hgen hq
 go_upto_region 19 with (first | ((with_reducible refine z2c HG3.out.x ?_ ?_);rfl) | ((with_reducible refine wpList_store_ky r.ka r.kb r.kc HG3.out.y ?_ ?_ ?_);rfl;rfl;rw [HGEN.out]))
 clear HGEN HG3
 clear c0 c1 c2 c3 c4 c8 c9
 have c0:=HG4.out.cx (j:=0) (v:=.int .u8 r.k) rfl
 have c1:=HG4.out.cx (j:=1) (v:=.int .u32 r.sg) rfl
 have c2:=HG4.out.cx (j:=2) (v:=.int .u32 r.tx) rfl
 have c3:=HG4.out.cx (j:=3) (v:=.int .u8 r.st) rfl
 have c4:=HG4.out.cx (j:=4) (v:=.bool r.cp) rfl
 have c8:=HG4.out.cx (j:=8) (v:=.int .i64 r.d) rfl
 have c9:=HG4.out.cx (j:=9) (v:=.int .u8 r.o) rfl
 rw [hk] at c0
 obtain⟨cy,cf⟩:=HG4.out.cy (j:=8) (v:=.int .i64 0) rfl
 go_upto_region 20 with (fail)
 clear cy cf
 have hq:=HG4.out.put 8 (.int .i64 r.d) (rm 6 0 r.tx 0 false r.ka r.kb r.kc r.d 0) rfl
 generalize w4.setCell ⟨Y,8,none⟩ (.int .i64 r.d)=w5 at *
 have HG5:=hid hq
 clear hq HG4
 clear c0 c1 c2 c3 c4 c8 c9
 have c0:=HG5.out.cx (j:=0) (v:=.int .u8 r.k) rfl
 have c1:=HG5.out.cx (j:=1) (v:=.int .u32 r.sg) rfl
 have c2:=HG5.out.cx (j:=2) (v:=.int .u32 r.tx) rfl
 have c3:=HG5.out.cx (j:=3) (v:=.int .u8 r.st) rfl
 have c4:=HG5.out.cx (j:=4) (v:=.bool r.cp) rfl
 have c8:=HG5.out.cx (j:=8) (v:=.int .i64 r.d) rfl
 have c9:=HG5.out.cx (j:=9) (v:=.int .u8 r.o) rfl
 rw [hk] at c0
 have HA:Hid (z1n (r.x L T M)=((r.tx != 0) && goodB 4 4 r.ka r.kb r.kc && (r.d != 0) && decide (-9223372036854775807≤r.d) && decide (r.x L T M=(Rv.x (rm 6 0 r.tx 0 false r.ka r.kb r.kc r.d 0) [] [] [])))):=hid (by
  have e:r.x L T M=⟨6,r.sg,r.tx,r.st,r.cp,(r.ka,r.kb,r.kc),r.d,r.o,r.pg L T M⟩:=by unfold Rv.x;rw [hk]
  rw [e,gk6 _ _ _ _ _ _ _ _ (show In64 r.d from HOK.out.d)]
  rfl)
 obtain⟨z,hz⟩:∃ z,decide (r.x L T M=(Rv.x (rm 6 0 r.tx 0 false r.ka r.kb r.kc r.d 0) [] [] []))=z:=⟨_,rfl⟩
 rw [hz] at HA
 have HSM:=hid (fun w (h:Gz W w B Y r (rm 6 0 r.tx 0 false r.ka r.kb r.kc r.d 0))=>rrec_same r (rm 6 0 r.tx 0 false r.ka r.kb r.kc r.d 0) L T M [] [] [] w (HP.out.later h.below) (rm_lists _ _ _ _ _ _ _ _ _ _ _) HH.out ⟨Nat.zero_le _,Nat.zero_le _,Nat.zero_le _⟩)
 rw [hz] at HSM
 clear hz hk
 have HGX:=HG5
 clear HG5
 cases qtx:(r.tx != 0)
 case false =>
  go_wp2_with (first | ((with_reducible refine z0d HGX.out.x ?_ ?_ ?_);rfl;rfl) | ((with_reducible refine z0d HGX.out.y ?_ ?_ ?_);rfl;rfl) | ((with_reducible refine z0f HGX.out.x ?_ ?_ ?_);rfl;rfl) | ((with_reducible refine z0g HGX.out.x ?_ ?_ ?_);rfl;rfl))
  go_ret
  exact⟨by rw [HA.out,qtx];rfl,HGX.out.below⟩
 go_wp2_with (first | ((with_reducible refine z0d HGX.out.x ?_ ?_ ?_);rfl;rfl) | ((with_reducible refine z0d HGX.out.y ?_ ?_ ?_);rfl;rfl) | ((with_reducible refine z0f HGX.out.x ?_ ?_ ?_);rfl;rfl) | ((with_reducible refine z0g HGX.out.x ?_ ?_ ?_);rfl;rfl))
 refine (refgood_any 4 4 r.ka r.kb r.kc HOK.out.key.2.1 HOK.out.key.2.2 w5).mono ?_
 rintro e w6 ⟨rfl,hgr⟩
 have hcb:=hgr.below
 clear hgr
 have HGX:=hid (HGX.out.later hcb)
 clear hcb
 clear c0 c1 c2 c3 c4 c8 c9
 have c0:=HGX.out.cx (j:=0) (v:=.int .u8 r.k) rfl
 have c1:=HGX.out.cx (j:=1) (v:=.int .u32 r.sg) rfl
 have c2:=HGX.out.cx (j:=2) (v:=.int .u32 r.tx) rfl
 have c3:=HGX.out.cx (j:=3) (v:=.int .u8 r.st) rfl
 have c4:=HGX.out.cx (j:=4) (v:=.bool r.cp) rfl
 have c8:=HGX.out.cx (j:=8) (v:=.int .i64 r.d) rfl
 have c9:=HGX.out.cx (j:=9) (v:=.int .u8 r.o) rfl
 rw [HHK.out] at c0
 cases qCK:goodB 4 4 r.ka r.kb r.kc
 case false =>
  go_wp2_with (first | ((with_reducible refine z0d HGX.out.x ?_ ?_ ?_);rfl;rfl) | ((with_reducible refine z0d HGX.out.y ?_ ?_ ?_);rfl;rfl) | ((with_reducible refine z0f HGX.out.x ?_ ?_ ?_);rfl;rfl) | ((with_reducible refine z0g HGX.out.x ?_ ?_ ?_);rfl;rfl))
  go_ret
  exact⟨by rw [HA.out,qtx,qCK];rfl,HGX.out.below⟩
 cases qdn:(r.d != 0)
 case false =>
  go_wp2_with (first | ((with_reducible refine z0d HGX.out.x ?_ ?_ ?_);rfl;rfl) | ((with_reducible refine z0d HGX.out.y ?_ ?_ ?_);rfl;rfl) | ((with_reducible refine z0f HGX.out.x ?_ ?_ ?_);rfl;rfl) | ((with_reducible refine z0g HGX.out.x ?_ ?_ ?_);rfl;rfl))
  go_ret
  exact⟨by rw [HA.out,qtx,qCK,qdn];rfl,HGX.out.below⟩
 cases qdg:decide (-9223372036854775807≤r.d)
 case false =>
  go_wp2_with (first | ((with_reducible refine z0d HGX.out.x ?_ ?_ ?_);rfl;rfl) | ((with_reducible refine z0d HGX.out.y ?_ ?_ ?_);rfl;rfl) | ((with_reducible refine z0f HGX.out.x ?_ ?_ ?_);rfl;rfl) | ((with_reducible refine z0g HGX.out.x ?_ ?_ ?_);rfl;rfl))
  go_ret
  exact⟨by rw [HA.out,qtx,qCK,qdn,qdg];rfl,HGX.out.below⟩
 go_wp2_with (first | ((with_reducible refine z0d HGX.out.x ?_ ?_ ?_);rfl;rfl) | ((with_reducible refine z0d HGX.out.y ?_ ?_ ?_);rfl;rfl) | ((with_reducible refine z0f HGX.out.x ?_ ?_ ?_);rfl;rfl) | ((with_reducible refine z0g HGX.out.x ?_ ?_ ?_);rfl;rfl))
 refine (HSM.out w6 HGX.out).mono ?_
 rintro e w7 ⟨rfl,hcb⟩
 have HB9:=hid (HGX.out.below.trans (hcb.mono HGX.out.below.size))
 clear hcb
 clear c0 c1 c2 c3 c4 c8 c9
 go_wp2_with fail
 go_ret
 exact⟨by rw [HA.out,qtx,qCK,qdn,qdg];rfl,HB9.out⟩
theorem rrec_good7 (r:Rv) (L:List Ln) (T:List Tk) (M:List Ln) (W:World) (hP:RvM W r L T M) (hok:Rxok (r.x L T M)) (h1:r.ln≤1000∧r.tn≤1000∧r.wn≤1000) (hk:r.k=7):Calls Tryz.prog 85 #[.agg (rcs r)] W fun e w'=>e=.returned (.bool (z1n (r.x L T M)))∧Below W.heap.size W w':=by
 have HOK:=hid hok
 have HP:=hid hP
 have HH:=hid h1
 clear hok hP h1
 obtain⟨W1,hW1,hb1⟩:∃ W1,W.alloc (.cells (rcs r) 42)=W1∧Below W.heap.size W W1:=⟨_,rfl,(Below.refl _ _).alloc (Nat.le_refl _) _⟩
 obtain⟨B,hB⟩:∃ B,W.heap.size=B:=⟨_,rfl⟩
 have hrb:=RB.new W r
 rw [hW1,hB] at hrb
 obtain⟨Y,hY⟩:∃ Y,W1.heap.size=Y:=⟨_,rfl⟩
 have hBY:B<Y:=by have:=hrb.lt;omega
 obtain⟨w1,hw1,hx1,hb1a⟩:∃ w1,W1.alloc (.cells zr 42)=w1∧RB w1 Y rz∧Below W1.heap.size W1 w1:=⟨_,rfl,by rw [← hY];exact z0c W1 _,(Below.refl _ _).alloc (Nat.le_refl _) _⟩
 have hG1:Gz W w1 B Y r rz:=⟨hrb.later hb1a,hx1,hb1.trans (hb1a.mono hb1.size),by omega,hBY⟩
 obtain⟨w2,hw2,hG2⟩:∃ w2,w1.setRow Y (rcs (rm 7 0 0 0 false 0 0 0 0 0))=w2∧Gz W w2 B Y r (rm 7 0 0 0 false 0 0 0 0 0):=⟨_,rfl,hG1.set _⟩
 have HX1:=hid hrb
 have HW1:=hid hW1
 have HRE:=hid hB
 have HYE:=hid hY
 have HW1a:=hid hw1
 have HXZ:=hid hx1
 have HW2:=hid hw2
 have HG2:=hid hG2
 have c0:W1.cell? ⟨B,0,none⟩=some (.int .u8 r.k):=z0a hrb rfl
 rw [hk] at c0
 clear hW1 hB hY hBY hw1 hx1 hb1a hG1 hw2 hG2 hb1 hrb
 have HHK:=hid hk
 go_enter Tryz.func85,Tryz.ntmps85
 go_upto_region 1 with (fail)
 rw [HW1.out,HRE.out]
 go_upto_region 2 with ((try rw [HYE.out]);(try rw [HW1a.out]);(with_reducible refine z1b (rm 7 0 0 0 false 0 0 0 0 0) HXZ.out ?_ ?_ ?_);rfl;rfl;rw [HW2.out])
 clear c0 HX1 HW1 HRE HYE HW1a HXZ HW2
 have c0:=HG2.out.cx (j:=0) (v:=.int .u8 r.k) rfl
 have c1:=HG2.out.cx (j:=1) (v:=.int .u32 r.sg) rfl
 have c2:=HG2.out.cx (j:=2) (v:=.int .u32 r.tx) rfl
 have c3:=HG2.out.cx (j:=3) (v:=.int .u8 r.st) rfl
 have c4:=HG2.out.cx (j:=4) (v:=.bool r.cp) rfl
 have c8:=HG2.out.cx (j:=8) (v:=.int .i64 r.d) rfl
 have c9:=HG2.out.cx (j:=9) (v:=.int .u8 r.o) rfl
 rw [hk] at c0
 obtain⟨cy,cf⟩:=HG2.out.cy (j:=2) (v:=.int .u32 0) rfl
 go_upto_region 25 with (fail)
 clear cy cf
 have hq:=HG2.out.put 2 (.int .u32 r.tx) (rm 7 0 r.tx 0 false 0 0 0 0 0) rfl
 generalize w2.setCell ⟨Y,2,none⟩ (.int .u32 r.tx)=w3 at *
 have HG3:=hid hq
 clear hq HG2
 clear c0 c1 c2 c3 c4 c8 c9
 have c0:=HG3.out.cx (j:=0) (v:=.int .u8 r.k) rfl
 have c1:=HG3.out.cx (j:=1) (v:=.int .u32 r.sg) rfl
 have c2:=HG3.out.cx (j:=2) (v:=.int .u32 r.tx) rfl
 have c3:=HG3.out.cx (j:=3) (v:=.int .u8 r.st) rfl
 have c4:=HG3.out.cx (j:=4) (v:=.bool r.cp) rfl
 have c8:=HG3.out.cx (j:=8) (v:=.int .i64 r.d) rfl
 have c9:=HG3.out.cx (j:=9) (v:=.int .u8 r.o) rfl
 rw [hk] at c0
 have HA:Hid (z1n (r.x L T M)=((r.tx != 0) && decide (r.x L T M=(Rv.x (rm 7 0 r.tx 0 false 0 0 0 0 0) [] [] [])))):=hid (by
  have e:r.x L T M=⟨7,r.sg,r.tx,r.st,r.cp,(r.ka,r.kb,r.kc),r.d,r.o,r.pg L T M⟩:=by unfold Rv.x;rw [hk]
  rw [e,gk4 _ _ _ _ _ _ _ _ _ (Or.inr (Or.inr rfl))]
  rfl)
 obtain⟨z,hz⟩:∃ z,decide (r.x L T M=(Rv.x (rm 7 0 r.tx 0 false 0 0 0 0 0) [] [] []))=z:=⟨_,rfl⟩
 rw [hz] at HA
 have HSM:=hid (fun w (h:Gz W w B Y r (rm 7 0 r.tx 0 false 0 0 0 0 0))=>rrec_same r (rm 7 0 r.tx 0 false 0 0 0 0 0) L T M [] [] [] w (HP.out.later h.below) (rm_lists _ _ _ _ _ _ _ _ _ _ _) HH.out ⟨Nat.zero_le _,Nat.zero_le _,Nat.zero_le _⟩)
 rw [hz] at HSM
 clear hz hk
 have HGX:=HG3
 clear HG3
 cases qtx:(r.tx != 0)
 case false =>
  go_wp2_with (first | ((with_reducible refine z0d HGX.out.x ?_ ?_ ?_);rfl;rfl) | ((with_reducible refine z0d HGX.out.y ?_ ?_ ?_);rfl;rfl) | ((with_reducible refine z0f HGX.out.x ?_ ?_ ?_);rfl;rfl) | ((with_reducible refine z0g HGX.out.x ?_ ?_ ?_);rfl;rfl))
  go_ret
  exact⟨by rw [HA.out,qtx];rfl,HGX.out.below⟩
 go_wp2_with (first | ((with_reducible refine z0d HGX.out.x ?_ ?_ ?_);rfl;rfl) | ((with_reducible refine z0d HGX.out.y ?_ ?_ ?_);rfl;rfl) | ((with_reducible refine z0f HGX.out.x ?_ ?_ ?_);rfl;rfl) | ((with_reducible refine z0g HGX.out.x ?_ ?_ ?_);rfl;rfl))
 refine (HSM.out w3 HGX.out).mono ?_
 rintro e w4 ⟨rfl,hcb⟩
 have HB9:=hid (HGX.out.below.trans (hcb.mono HGX.out.below.size))
 clear hcb
 clear c0 c1 c2 c3 c4 c8 c9
 go_wp2_with fail
 go_ret
 exact⟨by rw [HA.out,qtx];rfl,HB9.out⟩
theorem rrec_good8 (r:Rv) (L:List Ln) (T:List Tk) (M:List Ln) (W:World) (hP:RvM W r L T M) (hok:Rxok (r.x L T M)) (h1:r.ln≤1000∧r.tn≤1000∧r.wn≤1000) (hk:r.k=8):Calls Tryz.prog 85 #[.agg (rcs r)] W fun e w'=>e=.returned (.bool (z1n (r.x L T M)))∧Below W.heap.size W w':=by
 have HOK:=hid hok
 have HP:=hid hP
 have HH:=hid h1
 clear hok hP h1
 obtain⟨W1,hW1,hb1⟩:∃ W1,W.alloc (.cells (rcs r) 42)=W1∧Below W.heap.size W W1:=⟨_,rfl,(Below.refl _ _).alloc (Nat.le_refl _) _⟩
 obtain⟨B,hB⟩:∃ B,W.heap.size=B:=⟨_,rfl⟩
 have hrb:=RB.new W r
 rw [hW1,hB] at hrb
 obtain⟨Y,hY⟩:∃ Y,W1.heap.size=Y:=⟨_,rfl⟩
 have hBY:B<Y:=by have:=hrb.lt;omega
 obtain⟨w1,hw1,hx1,hb1a⟩:∃ w1,W1.alloc (.cells zr 42)=w1∧RB w1 Y rz∧Below W1.heap.size W1 w1:=⟨_,rfl,by rw [← hY];exact z0c W1 _,(Below.refl _ _).alloc (Nat.le_refl _) _⟩
 have hG1:Gz W w1 B Y r rz:=⟨hrb.later hb1a,hx1,hb1.trans (hb1a.mono hb1.size),by omega,hBY⟩
 obtain⟨w2,hw2,hG2⟩:∃ w2,w1.setRow Y (rcs (rm 8 0 0 0 false 0 0 0 0 0))=w2∧Gz W w2 B Y r (rm 8 0 0 0 false 0 0 0 0 0):=⟨_,rfl,hG1.set _⟩
 have HX1:=hid hrb
 have HW1:=hid hW1
 have HRE:=hid hB
 have HYE:=hid hY
 have HW1a:=hid hw1
 have HXZ:=hid hx1
 have HW2:=hid hw2
 have HG2:=hid hG2
 have c0:W1.cell? ⟨B,0,none⟩=some (.int .u8 r.k):=z0a hrb rfl
 rw [hk] at c0
 clear hW1 hB hY hBY hw1 hx1 hb1a hG1 hw2 hG2 hb1 hrb
 have HHK:=hid hk
 go_enter Tryz.func85,Tryz.ntmps85
 go_upto_region 1 with (fail)
 rw [HW1.out,HRE.out]
 go_upto_region 2 with ((try rw [HYE.out]);(try rw [HW1a.out]);(with_reducible refine z1b (rm 8 0 0 0 false 0 0 0 0 0) HXZ.out ?_ ?_ ?_);rfl;rfl;rw [HW2.out])
 clear c0 HX1 HW1 HRE HYE HW1a HXZ HW2
 have c0:=HG2.out.cx (j:=0) (v:=.int .u8 r.k) rfl
 have c1:=HG2.out.cx (j:=1) (v:=.int .u32 r.sg) rfl
 have c2:=HG2.out.cx (j:=2) (v:=.int .u32 r.tx) rfl
 have c3:=HG2.out.cx (j:=3) (v:=.int .u8 r.st) rfl
 have c4:=HG2.out.cx (j:=4) (v:=.bool r.cp) rfl
 have c8:=HG2.out.cx (j:=8) (v:=.int .i64 r.d) rfl
 have c9:=HG2.out.cx (j:=9) (v:=.int .u8 r.o) rfl
 rw [hk] at c0
 obtain⟨cy,cf⟩:=HG2.out.cy (j:=1) (v:=.int .u32 0) rfl
 go_upto_region 28 with (fail)
 clear cy cf
 have hq:=HG2.out.put 1 (.int .u32 r.sg) (rm 8 r.sg 0 0 false 0 0 0 0 0) rfl
 generalize w2.setCell ⟨Y,1,none⟩ (.int .u32 r.sg)=w3 at *
 have HG3:=hid hq
 clear hq HG2
 clear c0 c1 c2 c3 c4 c8 c9
 have c0:=HG3.out.cx (j:=0) (v:=.int .u8 r.k) rfl
 have c1:=HG3.out.cx (j:=1) (v:=.int .u32 r.sg) rfl
 have c2:=HG3.out.cx (j:=2) (v:=.int .u32 r.tx) rfl
 have c3:=HG3.out.cx (j:=3) (v:=.int .u8 r.st) rfl
 have c4:=HG3.out.cx (j:=4) (v:=.bool r.cp) rfl
 have c8:=HG3.out.cx (j:=8) (v:=.int .i64 r.d) rfl
 have c9:=HG3.out.cx (j:=9) (v:=.int .u8 r.o) rfl
 rw [hk] at c0
 have HA:Hid (z1n (r.x L T M)=((r.sg != 0) && decide (r.x L T M=(Rv.x (rm 8 r.sg 0 0 false 0 0 0 0 0) [] [] [])))):=hid (by
  have e:r.x L T M=⟨8,r.sg,r.tx,r.st,r.cp,(r.ka,r.kb,r.kc),r.d,r.o,r.pg L T M⟩:=by unfold Rv.x;rw [hk]
  rw [e,gk8 _ _ _ _ _ _ _ _]
  rfl)
 obtain⟨z,hz⟩:∃ z,decide (r.x L T M=(Rv.x (rm 8 r.sg 0 0 false 0 0 0 0 0) [] [] []))=z:=⟨_,rfl⟩
 rw [hz] at HA
 have HSM:=hid (fun w (h:Gz W w B Y r (rm 8 r.sg 0 0 false 0 0 0 0 0))=>rrec_same r (rm 8 r.sg 0 0 false 0 0 0 0 0) L T M [] [] [] w (HP.out.later h.below) (rm_lists _ _ _ _ _ _ _ _ _ _ _) HH.out ⟨Nat.zero_le _,Nat.zero_le _,Nat.zero_le _⟩)
 rw [hz] at HSM
 clear hz hk
 have HGX:=HG3
 clear HG3
 cases qsg:(r.sg != 0)
 case false =>
  go_wp2_with (first | ((with_reducible refine z0d HGX.out.x ?_ ?_ ?_);rfl;rfl) | ((with_reducible refine z0d HGX.out.y ?_ ?_ ?_);rfl;rfl) | ((with_reducible refine z0f HGX.out.x ?_ ?_ ?_);rfl;rfl) | ((with_reducible refine z0g HGX.out.x ?_ ?_ ?_);rfl;rfl))
  go_ret
  exact⟨by rw [HA.out,qsg];rfl,HGX.out.below⟩
 go_wp2_with (first | ((with_reducible refine z0d HGX.out.x ?_ ?_ ?_);rfl;rfl) | ((with_reducible refine z0d HGX.out.y ?_ ?_ ?_);rfl;rfl) | ((with_reducible refine z0f HGX.out.x ?_ ?_ ?_);rfl;rfl) | ((with_reducible refine z0g HGX.out.x ?_ ?_ ?_);rfl;rfl))
 refine (HSM.out w3 HGX.out).mono ?_
 rintro e w4 ⟨rfl,hcb⟩
 have HB9:=hid (HGX.out.below.trans (hcb.mono HGX.out.below.size))
 clear hcb
 clear c0 c1 c2 c3 c4 c8 c9
 go_wp2_with fail
 go_ret
 exact⟨by rw [HA.out,qsg];rfl,HB9.out⟩
theorem rrec_good9 (r:Rv) (L:List Ln) (T:List Tk) (M:List Ln) (W:World) (hP:RvM W r L T M) (hok:Rxok (r.x L T M)) (h1:r.ln≤1000∧r.tn≤1000∧r.wn≤1000) (hk:r.k=9):Calls Tryz.prog 85 #[.agg (rcs r)] W fun e w'=>e=.returned (.bool (z1n (r.x L T M)))∧Below W.heap.size W w':=by
 have HOK:=hid hok
 have HP:=hid hP
 have HH:=hid h1
 clear hok hP h1
 obtain⟨W1,hW1,hb1⟩:∃ W1,W.alloc (.cells (rcs r) 42)=W1∧Below W.heap.size W W1:=⟨_,rfl,(Below.refl _ _).alloc (Nat.le_refl _) _⟩
 obtain⟨B,hB⟩:∃ B,W.heap.size=B:=⟨_,rfl⟩
 have hrb:=RB.new W r
 rw [hW1,hB] at hrb
 obtain⟨Y,hY⟩:∃ Y,W1.heap.size=Y:=⟨_,rfl⟩
 have hBY:B<Y:=by have:=hrb.lt;omega
 obtain⟨w1,hw1,hx1,hb1a⟩:∃ w1,W1.alloc (.cells zr 42)=w1∧RB w1 Y rz∧Below W1.heap.size W1 w1:=⟨_,rfl,by rw [← hY];exact z0c W1 _,(Below.refl _ _).alloc (Nat.le_refl _) _⟩
 have hG1:Gz W w1 B Y r rz:=⟨hrb.later hb1a,hx1,hb1.trans (hb1a.mono hb1.size),by omega,hBY⟩
 obtain⟨w2,hw2,hG2⟩:∃ w2,w1.setRow Y (rcs (rm 9 0 0 0 false 0 0 0 0 0))=w2∧Gz W w2 B Y r (rm 9 0 0 0 false 0 0 0 0 0):=⟨_,rfl,hG1.set _⟩
 have HX1:=hid hrb
 have HW1:=hid hW1
 have HRE:=hid hB
 have HYE:=hid hY
 have HW1a:=hid hw1
 have HXZ:=hid hx1
 have HW2:=hid hw2
 have HG2:=hid hG2
 have c0:W1.cell? ⟨B,0,none⟩=some (.int .u8 r.k):=z0a hrb rfl
 rw [hk] at c0
 clear hW1 hB hY hBY hw1 hx1 hb1a hG1 hw2 hG2 hb1 hrb
 have HHK:=hid hk
 go_enter Tryz.func85,Tryz.ntmps85
 go_upto_region 1 with (fail)
 rw [HW1.out,HRE.out]
 go_upto_region 2 with ((try rw [HYE.out]);(try rw [HW1a.out]);(with_reducible refine z1b (rm 9 0 0 0 false 0 0 0 0 0) HXZ.out ?_ ?_ ?_);rfl;rfl;rw [HW2.out])
 clear c0 HX1 HW1 HRE HYE HW1a HXZ HW2
 have c0:=HG2.out.cx (j:=0) (v:=.int .u8 r.k) rfl
 have c1:=HG2.out.cx (j:=1) (v:=.int .u32 r.sg) rfl
 have c2:=HG2.out.cx (j:=2) (v:=.int .u32 r.tx) rfl
 have c3:=HG2.out.cx (j:=3) (v:=.int .u8 r.st) rfl
 have c4:=HG2.out.cx (j:=4) (v:=.bool r.cp) rfl
 have c8:=HG2.out.cx (j:=8) (v:=.int .i64 r.d) rfl
 have c9:=HG2.out.cx (j:=9) (v:=.int .u8 r.o) rfl
 rw [hk] at c0
 obtain⟨cy,cf⟩:=HG2.out.cy (j:=1) (v:=.int .u32 0) rfl
 go_upto_region 31 with (fail)
 clear cy cf
 have hq:=HG2.out.put 1 (.int .u32 r.sg) (rm 9 r.sg 0 0 false 0 0 0 0 0) rfl
 generalize w2.setCell ⟨Y,1,none⟩ (.int .u32 r.sg)=w3 at *
 have HG3:=hid hq
 clear hq HG2
 clear c0 c1 c2 c3 c4 c8 c9
 have c0:=HG3.out.cx (j:=0) (v:=.int .u8 r.k) rfl
 have c1:=HG3.out.cx (j:=1) (v:=.int .u32 r.sg) rfl
 have c2:=HG3.out.cx (j:=2) (v:=.int .u32 r.tx) rfl
 have c3:=HG3.out.cx (j:=3) (v:=.int .u8 r.st) rfl
 have c4:=HG3.out.cx (j:=4) (v:=.bool r.cp) rfl
 have c8:=HG3.out.cx (j:=8) (v:=.int .i64 r.d) rfl
 have c9:=HG3.out.cx (j:=9) (v:=.int .u8 r.o) rfl
 rw [hk] at c0
 obtain⟨cy,cf⟩:=HG3.out.cy (j:=9) (v:=.int .u8 0) rfl
 go_upto_region 32 with (fail)
 clear cy cf
 have hq:=HG3.out.put 9 (.int .u8 r.o) (rm 9 r.sg 0 0 false 0 0 0 0 r.o) rfl
 generalize w3.setCell ⟨Y,9,none⟩ (.int .u8 r.o)=w4 at *
 have HG4:=hid hq
 clear hq HG3
 clear c0 c1 c2 c3 c4 c8 c9
 have c0:=HG4.out.cx (j:=0) (v:=.int .u8 r.k) rfl
 have c1:=HG4.out.cx (j:=1) (v:=.int .u32 r.sg) rfl
 have c2:=HG4.out.cx (j:=2) (v:=.int .u32 r.tx) rfl
 have c3:=HG4.out.cx (j:=3) (v:=.int .u8 r.st) rfl
 have c4:=HG4.out.cx (j:=4) (v:=.bool r.cp) rfl
 have c8:=HG4.out.cx (j:=8) (v:=.int .i64 r.d) rfl
 have c9:=HG4.out.cx (j:=9) (v:=.int .u8 r.o) rfl
 rw [hk] at c0
 have HA:Hid (z1n (r.x L T M)=((r.sg != 0) && ((r.o==1) || (r.o==2)) && decide (r.x L T M=(Rv.x (rm 9 r.sg 0 0 false 0 0 0 0 r.o) [] [] [])))):=hid (by
  have e:r.x L T M=⟨9,r.sg,r.tx,r.st,r.cp,(r.ka,r.kb,r.kc),r.d,r.o,r.pg L T M⟩:=by unfold Rv.x;rw [hk]
  rw [e,gk9 _ _ _ _ _ _ _ _]
  rfl)
 obtain⟨z,hz⟩:∃ z,decide (r.x L T M=(Rv.x (rm 9 r.sg 0 0 false 0 0 0 0 r.o) [] [] []))=z:=⟨_,rfl⟩
 rw [hz] at HA
 have HSM:=hid (fun w (h:Gz W w B Y r (rm 9 r.sg 0 0 false 0 0 0 0 r.o))=>rrec_same r (rm 9 r.sg 0 0 false 0 0 0 0 r.o) L T M [] [] [] w (HP.out.later h.below) (rm_lists _ _ _ _ _ _ _ _ _ _ _) HH.out ⟨Nat.zero_le _,Nat.zero_le _,Nat.zero_le _⟩)
 rw [hz] at HSM
 clear hz hk
 have HGX:=HG4
 clear HG4
 cases qsg:(r.sg != 0)
 case false =>
  go_wp2_with (first | ((with_reducible refine z0d HGX.out.x ?_ ?_ ?_);rfl;rfl) | ((with_reducible refine z0d HGX.out.y ?_ ?_ ?_);rfl;rfl) | ((with_reducible refine z0f HGX.out.x ?_ ?_ ?_);rfl;rfl) | ((with_reducible refine z0g HGX.out.x ?_ ?_ ?_);rfl;rfl))
  go_ret
  exact⟨by rw [HA.out,qsg];rfl,HGX.out.below⟩
 cases qo1:(r.o==1)
 case false =>
  cases qo2:(r.o==2)
  case false =>
   go_wp2_with (first | ((with_reducible refine z0d HGX.out.x ?_ ?_ ?_);rfl;rfl) | ((with_reducible refine z0d HGX.out.y ?_ ?_ ?_);rfl;rfl) | ((with_reducible refine z0f HGX.out.x ?_ ?_ ?_);rfl;rfl) | ((with_reducible refine z0g HGX.out.x ?_ ?_ ?_);rfl;rfl))
   go_ret
   exact⟨by rw [HA.out,qsg,qo1,qo2];rfl,HGX.out.below⟩
  go_wp2_with (first | ((with_reducible refine z0d HGX.out.x ?_ ?_ ?_);rfl;rfl) | ((with_reducible refine z0d HGX.out.y ?_ ?_ ?_);rfl;rfl) | ((with_reducible refine z0f HGX.out.x ?_ ?_ ?_);rfl;rfl) | ((with_reducible refine z0g HGX.out.x ?_ ?_ ?_);rfl;rfl))
  refine (HSM.out w4 HGX.out).mono ?_
  rintro e w5 ⟨rfl,hcb⟩
  have HB9:=hid (HGX.out.below.trans (hcb.mono HGX.out.below.size))
  clear hcb
  clear c0 c1 c2 c3 c4 c8 c9
  go_wp2_with fail
  go_ret
  exact⟨by rw [HA.out,qsg,qo1,qo2];rfl,HB9.out⟩
 go_wp2_with (first | ((with_reducible refine z0d HGX.out.x ?_ ?_ ?_);rfl;rfl) | ((with_reducible refine z0d HGX.out.y ?_ ?_ ?_);rfl;rfl) | ((with_reducible refine z0f HGX.out.x ?_ ?_ ?_);rfl;rfl) | ((with_reducible refine z0g HGX.out.x ?_ ?_ ?_);rfl;rfl))
 refine (HSM.out w4 HGX.out).mono ?_
 rintro e w5 ⟨rfl,hcb⟩
 have HB9:=hid (HGX.out.below.trans (hcb.mono HGX.out.below.size))
 clear hcb
 clear c0 c1 c2 c3 c4 c8 c9
 go_wp2_with fail
 go_ret
 exact⟨by rw [HA.out,qsg,qo1];rfl,HB9.out⟩
theorem rrec_goodx (r:Rv) (L:List Ln) (T:List Tk) (M:List Ln) (W:World) (hP:RvM W r L T M) (hok:Rxok (r.x L T M)) (h1:r.ln≤1000∧r.tn≤1000∧r.wn≤1000) (hk:kOk r.k=false):Calls Tryz.prog 85 #[.agg (rcs r)] W fun e w'=>e=.returned (.bool (z1n (r.x L T M)))∧Below W.heap.size W w':=by
 have HOK:=hid hok
 have HA:Hid (z1n (r.x L T M)=false):=hid (by unfold z1n;rw [show kOk (r.x L T M).k=false from hk];rfl)
 obtain⟨n1,n2,n3,n4,n5,n6,n7,n8,n9⟩:=not_kOk hk
 have e1:(r.k==1)=false:=by simpa using n1
 have e2:(r.k==2)=false:=by simpa using n2
 have e3:(r.k==3)=false:=by simpa using n3
 have e4:(r.k==4)=false:=by simpa using n4
 have e5:(r.k==5)=false:=by simpa using n5
 have e6:(r.k==6)=false:=by simpa using n6
 have e7:(r.k==7)=false:=by simpa using n7
 have e8:(r.k==8)=false:=by simpa using n8
 have e9:(r.k==9)=false:=by simpa using n9
 clear hok hP h1 n1 n2 n3 n4 n5 n6 n7 n8 n9
 obtain⟨W1,hW1,hb1⟩:∃ W1,W.alloc (.cells (rcs r) 42)=W1∧Below W.heap.size W W1:=⟨_,rfl,(Below.refl _ _).alloc (Nat.le_refl _) _⟩
 obtain⟨B,hB⟩:∃ B,W.heap.size=B:=⟨_,rfl⟩
 have hrb:=RB.new W r
 rw [hW1,hB] at hrb
 obtain⟨Y,hY⟩:∃ Y,W1.heap.size=Y:=⟨_,rfl⟩
 have hBY:B<Y:=by have:=hrb.lt;omega
 obtain⟨w1,hw1,hx1,hb1a⟩:∃ w1,W1.alloc (.cells zr 42)=w1∧RB w1 Y rz∧Below W1.heap.size W1 w1:=⟨_,rfl,by rw [← hY];exact z0c W1 _,(Below.refl _ _).alloc (Nat.le_refl _) _⟩
 have hG1:Gz W w1 B Y r rz:=⟨hrb.later hb1a,hx1,hb1.trans (hb1a.mono hb1.size),by omega,hBY⟩
 obtain⟨w2,hw2,hG2⟩:∃ w2,w1.setRow Y (rcs (rm r.k 0 0 0 false 0 0 0 0 0))=w2∧Gz W w2 B Y r (rm r.k 0 0 0 false 0 0 0 0 0):=⟨_,rfl,hG1.set _⟩
 have HX1:=hid hrb
 have HW1:=hid hW1
 have HRE:=hid hB
 have HYE:=hid hY
 have HW1a:=hid hw1
 have HXZ:=hid hx1
 have HW2:=hid hw2
 have HG2:=hid hG2
 have c0:W1.cell? ⟨B,0,none⟩=some (.int .u8 r.k):=z0a hrb rfl
 clear hW1 hB hY hBY hw1 hx1 hb1a hG1 hw2 hG2 hb1 hrb
 have HHK:=hid hk
 go_enter Tryz.func85,Tryz.ntmps85
 go_upto_region 1 with (fail)
 rw [HW1.out,HRE.out]
 go_upto_region 2 with ((try rw [HYE.out]);(try rw [HW1a.out]);(with_reducible refine z1b (rm r.k 0 0 0 false 0 0 0 0 0) HXZ.out ?_ ?_ ?_);rfl;rfl;rw [HW2.out])
 clear c0 HX1 HW1 HRE HYE HW1a HXZ HW2
 have c0:=HG2.out.cx (j:=0) (v:=.int .u8 r.k) rfl
 clear hk
 go_wp2_with fail
 go_ret
 exact⟨by rw [HA.out];rfl,HG2.out.below⟩
theorem rrec_good (r:Rv) (L:List Ln) (T:List Tk) (M:List Ln) (W:World) (hP:RvM W r L T M) (hok:Rxok (r.x L T M)) (h1:r.ln≤1000∧r.tn≤1000∧r.wn≤1000):Calls Tryz.prog 85 #[.agg (rcs r)] W fun e w'=>e=.returned (.bool (z1n (r.x L T M)))∧Below W.heap.size W w':=by
 cases hk:kOk r.k with
 | true =>
  rcases kOk_cases hk with h | h | h | h | h | h | h | h | h
  · exact rrec_good1 r L T M W hP hok h1 h
  · exact rrec_good2 r L T M W hP hok h1 h
  · exact rrec_good3 r L T M W hP hok h1 h
  · exact rrec_good4 r L T M W hP hok h1 h
  · exact rrec_good5 r L T M W hP hok h1 h
  · exact rrec_good6 r L T M W hP hok h1 h
  · exact rrec_good7 r L T M W hP hok h1 h
  · exact rrec_good8 r L T M W hP hok h1 h
  · exact rrec_good9 r L T M W hP hok h1 h
 | false=>exact rrec_goodx r L T M W hP hok h1 hk
end Go.Proofs.YtclbkfpbdidaiaaGreatDoor
