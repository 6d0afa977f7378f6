import Derived.Test.YtclbkfpbdidaiaaGreatDoorPA36
import Derived.Test.YtclbkfpbdidaiaaGreatDoorPA43
namespace Go.Proofs.YtclbkfpbdidaiaaGreatDoor
open Go.Lib (hid)
set_option maxHeartbeats 16000000
open Go.RowKit Go.ChangeShapes Go.WideShapes
set_option linter.unusedVariables false
set_option linter.unusedSimpArgs false
set_option maxRecDepth 10000
theorem rn4 (x:Int) (h:0≤x∧x≤4294967295) (w:World):Calls Tryz.prog 116 #[.int .u64 x,.int .i64 4] w (Copied w 4 (le x.toNat 4)):=by
 have:=rnum_any x.toNat 4 w (by omega) (by omega)
 rw [Int.toNat_of_nonneg h.1] at this
 exact this
theorem vL_one1 {x:Int} (h:0≤x∧x≤255):(#[.int .u8 x]:Array Value).toList=vL [x.toNat]:=by
 simp [vL,Int.toNat_of_nonneg h.1]
theorem vL_one3 {x y z:Int} (h:0≤x∧x≤255) (g:0≤y∧y≤255) (i:0≤z∧z≤255):(#[.int .u8 x,.int .u8 y,.int .u8 z]:Array Value).toList=vL [x.toNat,y.toNat,z.toNat]:=by
 simp [vL,Int.toNat_of_nonneg h.1,Int.toNat_of_nonneg g.1,Int.toNat_of_nonneg i.1]
theorem le_byt {x:Nat} (h:x<256):le x 1=[x]:=by simp [le,Nat.mod_eq_of_lt h]
theorem rrec_bytes1 (r:Rv) (L:List Ln) (T:List Tk) (M:List Ln) (W:World) (hP:RvM W r L T M) (hok:Rxok (r.x L T M)) (h1:r.ln≤20∧r.tn≤30∧r.wn≤20) (hk:r.k=1) (hg:z0p 4 4 (r.pg L T M)=true):Calls Tryz.prog 86 #[.agg (rcs r)] W (Copied W (z0l (r.x L T M)).length (z0l (r.x L T M))):=by
 obtain⟨W1,hW1,hb1⟩:∃ W1,W.alloc (.cells (rcs r) 42)=W1∧Below W.heap.size W W1:=⟨_,rfl,(Below.refl _ _).alloc (Nat.le_refl _) _⟩
 obtain⟨B,hB⟩:∃ B,W.heap.size=B:=⟨_,rfl⟩
 have hrb:=RB.new W r
 rw [hW1,hB] at hrb
 have h0:FB W1 (W1.alloc (.cells #[.int .u8 1] 5)) (.slice (some ⟨W1.heap.size,0,none⟩) 1 1) [1]:=FB.lit (m:=1) (Below.refl _ _) rfl rfl (by omega) (fun x hx=>by obtain rfl:=List.mem_singleton.1 hx;omega)
 obtain⟨w1,hw1⟩:∃ w1,W1.alloc (.cells #[.int .u8 1] 5)=w1:=⟨_,rfl⟩
 rw [hw1] at h0
 have Hw1:=hid hw1
 have H1:=hid h0
 have HX1:=hid hrb
 have HW1:=hid hW1
 have HB1:=hid hb1
 have HRE:=hid hB
 have HOK:=hid hok
 have HP:=hid hP
 have HH:=hid h1
 have u1:IntKind.u64.wrap r.sg=r.sg:=z0n hok.sg
 have u2:IntKind.u64.wrap r.tx=r.tx:=z0n hok.tx
 have HGG:=hid hg
 clear hg
 have HGX:=hid (HX1.out)
 obtain⟨c0,c1,c2,c3,c4,c5,c6,c7,c8,c9⟩:=HGX.out.at
 rw [hk] at c0
 clear hW1 hB hb1 hrb hP h0 hw1 h1 hok
 go_enter Tryz.func86,Tryz.ntmps86
 go_upto_region 1 with (fail)
 rw [HW1.out,HRE.out]
 go_upto_region 2 with (fail)
 rw [Hw1.out]
 clear c0 c1 c2 c3 c4 c5 c6 c7 c8 c9
 obtain⟨v1,hv1⟩:∃ v1,Value.slice (some ⟨W1.heap.size,0,none⟩) 1 1=v1:=⟨_,rfl⟩
 rw [hv1] at H1 ⊢
 clear hv1
 obtain⟨B1,hB1⟩:∃ B1,[1]=B1:=⟨_,rfl⟩
 obtain⟨m1,hm1⟩:∃ m1,1=m1:=⟨_,rfl⟩
 have hq1:m1≤1:=by omega
 have HL1:Hid (B1.length=m1):=hid (by rw [← hB1,← hm1];rfl)
 clear hm1
 rw [hB1] at H1
 have HBq1:=hid hB1
 clear hB1
 have HGX:=hid (HX1.out.later H1.out.below)
 obtain⟨c0,c1,c2,c3,c4,c5,c6,c7,c8,c9⟩:=HGX.out.at
 rw [hk] at c0
 go_wp2_with fail
 refine (rn4 r.sg HOK.out.sg w1).mono ?_
 rintro e xs ⟨vv,rfl,hrow,hbs,_⟩
 obtain⟨ps,cs,hv,_,hsl,_⟩:=hrow.sl
 subst hv
 have HBS:=hid hbs.size
 have HFs:=hid (H1.out.later hbs)
 have HSs:=hid hsl
 clear hrow hbs hsl
 clear c0 c1 c2 c3 c4 c5 c6 c7 c8 c9
 have HGX:=hid (HX1.out.later HFs.out.below)
 obtain⟨c0,c1,c2,c3,c4,c5,c6,c7,c8,c9⟩:=HGX.out.at
 rw [hk] at c0
 go_wp2_with fail
 refine (rn4 r.tx HOK.out.tx xs).mono ?_
 rintro e xt ⟨vv,rfl,hrow,hbt,hot⟩
 obtain⟨pt,ct,hv,_,hsl,hqt⟩:=hrow.sl
 have HPT:Hid (∀ a,pt=some a→w1.heap.size≤a.block):=hid fun a ha=>by have h1:=hot _ (hqt a ha);have h2:=HBS.out;omega
 have HV1:Hid (∀ k,v1.ownBlock=some k→k<w1.heap.size):=hid H1.out.row.bound
 clear hot hqt
 subst hv
 have HFt:=hid (HFs.out.later hbt)
 have HSt:=hid hsl
 have HSs:=hid (HSs.out.later hbt)
 clear hrow hbt hsl
 clear c0 c1 c2 c3 c4 c5 c6 c7 c8 c9
 have HGX:=hid (HX1.out.later HFt.out.below)
 obtain⟨c0,c1,c2,c3,c4,c5,c6,c7,c8,c9⟩:=HGX.out.at
 rw [hk] at c0
 go_upto_region 7 with (at_builtin;refine z0h (k:=1) (by decide) Tryz.underlying96 z1f rfl (by omega) rfl _ _ rfl v1 m1 (vL B1) rfl (by rw [← HL1.out];exact HFt.out.row.own) ps 4 cs (vL (le r.sg.toNat 4)) rfl (by rw [z1p,Nat.mul_one];exact HSs.out.len) (z2d HSs.out) (z2e HSs.out) (z1u _) (by omega) ?_;intro pn cn w3 h1 h2 h3)
 have hf:=HFt.out.app (M:=(le r.sg.toNat 4)) HSs.out.lt h1 h2 h3
 clear h1 h2 h3
 generalize hB2:B1++(le r.sg.toNat 4)=B2 at hf
 have HBq2:=hid hB2
 have HL2:Hid (B2.length=m1+4):=hid (by rw [← hB2,List.length_append,HL1.out];first | rfl | (simp only [z0m];try omega))
 generalize Value.slice pn (m1+4) cn=v2 at *
 have H2:=hid hf
 clear hf hB2
 obtain⟨m2,hm2⟩:∃ z,m1+4=z:=⟨_,rfl⟩
 have hq2:m2≤m1+4:=by omega
 rw [hm2] at HL2
 clear hm2
 obtain⟨w2,hw2x⟩:∃ x,x=w3:=⟨_,rfl⟩
 subst hw2x
 clear c0 c1 c2 c3 c4 c5 c6 c7 c8 c9
 have HGX:=hid (HX1.out.later H2.out.below)
 obtain⟨c0,c1,c2,c3,c4,c5,c6,c7,c8,c9⟩:=HGX.out.at
 rw [hk] at c0
 go_wp2_with ((with_reducible refine wpList_load_pr HGX.out ?_ ?_);rfl)
 refine (rbytes_p r.pk r.od r.po r.lp r.ln r.lcp r.tp r.tn r.tcp r.wp r.wn r.wcp r.sk r.fr r.to r.q L T M w2 (HP.out.later (HB1.out.trans (H2.out.below.mono HB1.out.size))) HOK.out.pg HH.out).mono ?_
 have hpe:z2f ⟨r.pk,r.od,r.po,L,T,M,r.sk,r.fr,r.to,r.q⟩=z2f (r.pg L T M):=rfl
 rw [hpe]
 have hpf:=pg_few HGG.out
 generalize hyp:z2f (r.pg L T M)=Yp at *
 have HYP:=hid hyp
 generalize hny:Yp.length=ny at *
 have HNY:=hid hny
 rintro e y2 ⟨vv,rfl,hrow,hb4,_⟩
 obtain⟨pw,cw,hv,_,hsl,_⟩:=hrow.sl
 subst hv
 have HF4:=hid (H2.out.later hb4)
 have HS4:=hid hsl
 clear hrow hb4 hsl hny hpe hyp
 clear c0 c1 c2 c3 c4 c5 c6 c7 c8 c9
 go_wp2_with fail
 refine (rbytes_any pw ny cw Yp y2 HS4.out (by omega)).mono ?_
 rintro e z2 ⟨vv,rfl,hrow,hb5,_⟩
 obtain⟨px,cx,hv,_,hsl,_⟩:=hrow.sl
 subst hv
 have HFA:=hid (HF4.out.later hb5)
 have HSL:=hid hsl
 clear hrow hb5 hsl HS4
 go_wp2_with (first | (at_builtin;refine z0h (k:=1) (by decide) Tryz.underlying96 z1f rfl (by omega) rfl _ _ rfl v2 m2 (vL B2) rfl (by rw [← HL2.out];exact HFA.out.row.own) px (2+ny) cx (vL (le ny 2++Yp)) rfl (by rw [z1p,Nat.mul_one];exact HSL.out.len) (z2d HSL.out) (z2e HSL.out) (z1u _) (by omega) ?_;intro pn cn w3 h1 h2 h3))
 have hf:=HFA.out.app (M:=(le ny 2++Yp)) HSL.out.lt h1 h2 h3
 clear h1 h2 h3
 generalize hB3:B2++(le ny 2++Yp)=B3 at hf
 have HBq3:=hid hB3
 have HL3:Hid (B3.length=m2+(2+ny)):=hid (by rw [← hB3,List.length_append,HL2.out];simp only [List.length_append,z0m];have:=HNY.out;omega)
 generalize Value.slice pn (m2+(2+ny)) cn=v3 at *
 have H3:=hid hf
 clear hf hB3
 obtain⟨m3,hm3⟩:∃ z,m2+(2+ny)=z:=⟨_,rfl⟩
 have hq3:m3≤m2+(2+ny):=by omega
 rw [hm3] at HL3
 clear hm3
 obtain⟨w3,hw3x⟩:∃ x,x=w3:=⟨_,rfl⟩
 subst hw3x
 go_ret
 have hst:le r.st.toNat 1=[r.st.toNat]:=le_byt (by have e:=HOK.out.st;change 0≤r.st∧r.st≤255 at e;omega)
 have hoo:le r.o.toNat 1=[r.o.toNat]:=le_byt (by have e:=HOK.out.o;change 0≤r.o∧r.o≤255 at e;omega)
 have hfin:z0l (r.x L T M)=B3:=by
  rw [← HBq3.out,← HBq2.out,← HBq1.out]
  unfold z0l
  rw [show (r.x L T M).k=1 from hk,show le (1:Int).toNat 1=[1] from rfl]
  simp [kS,kT,kB,kA,kO,kP,Rv.x,keyB,List.append_assoc,hst,hoo,HYP.out,HNY.out]
 rw [hfin]
 exact⟨_,rfl,H3.out.row,HB1.out.trans (H3.out.below.mono HB1.out.size),fun k hk=>Nat.le_trans HB1.out.size (H3.out.own k hk)⟩
theorem rrec_bytes2 (r:Rv) (L:List Ln) (T:List Tk) (M:List Ln) (W:World) (hP:RvM W r L T M) (hok:Rxok (r.x L T M)) (h1:r.ln≤20∧r.tn≤30∧r.wn≤20) (hk:r.k=2):Calls Tryz.prog 86 #[.agg (rcs r)] W (Copied W (z0l (r.x L T M)).length (z0l (r.x L T M))):=by
 obtain⟨W1,hW1,hb1⟩:∃ W1,W.alloc (.cells (rcs r) 42)=W1∧Below W.heap.size W W1:=⟨_,rfl,(Below.refl _ _).alloc (Nat.le_refl _) _⟩
 obtain⟨B,hB⟩:∃ B,W.heap.size=B:=⟨_,rfl⟩
 have hrb:=RB.new W r
 rw [hW1,hB] at hrb
 have h0:FB W1 (W1.alloc (.cells #[.int .u8 2] 5)) (.slice (some ⟨W1.heap.size,0,none⟩) 1 1) [2]:=FB.lit (m:=1) (Below.refl _ _) rfl rfl (by omega) (fun x hx=>by obtain rfl:=List.mem_singleton.1 hx;omega)
 obtain⟨w1,hw1⟩:∃ w1,W1.alloc (.cells #[.int .u8 2] 5)=w1:=⟨_,rfl⟩
 rw [hw1] at h0
 have Hw1:=hid hw1
 have H1:=hid h0
 have HX1:=hid hrb
 have HW1:=hid hW1
 have HB1:=hid hb1
 have HRE:=hid hB
 have HOK:=hid hok
 have HP:=hid hP
 have HH:=hid h1
 have u1:IntKind.u64.wrap r.sg=r.sg:=z0n hok.sg
 have u2:IntKind.u64.wrap r.tx=r.tx:=z0n hok.tx
 have HGX:=hid (HX1.out)
 obtain⟨c0,c1,c2,c3,c4,c5,c6,c7,c8,c9⟩:=HGX.out.at
 rw [hk] at c0
 clear hW1 hB hb1 hrb hP h0 hw1 h1 hok
 go_enter Tryz.func86,Tryz.ntmps86
 go_upto_region 1 with (fail)
 rw [HW1.out,HRE.out]
 go_upto_region 2 with (fail)
 rw [Hw1.out]
 clear c0 c1 c2 c3 c4 c5 c6 c7 c8 c9
 obtain⟨v1,hv1⟩:∃ v1,Value.slice (some ⟨W1.heap.size,0,none⟩) 1 1=v1:=⟨_,rfl⟩
 rw [hv1] at H1 ⊢
 clear hv1
 obtain⟨B1,hB1⟩:∃ B1,[2]=B1:=⟨_,rfl⟩
 obtain⟨m1,hm1⟩:∃ m1,1=m1:=⟨_,rfl⟩
 have hq1:m1≤1:=by omega
 have HL1:Hid (B1.length=m1):=hid (by rw [← hB1,← hm1];rfl)
 clear hm1
 rw [hB1] at H1
 have HBq1:=hid hB1
 clear hB1
 have HGX:=hid (HX1.out.later H1.out.below)
 obtain⟨c0,c1,c2,c3,c4,c5,c6,c7,c8,c9⟩:=HGX.out.at
 rw [hk] at c0
 go_wp2_with fail
 refine (rn4 r.sg HOK.out.sg w1).mono ?_
 rintro e xs ⟨vv,rfl,hrow,hbs,_⟩
 obtain⟨ps,cs,hv,_,hsl,_⟩:=hrow.sl
 subst hv
 have HBS:=hid hbs.size
 have HFs:=hid (H1.out.later hbs)
 have HSs:=hid hsl
 clear hrow hbs hsl
 clear c0 c1 c2 c3 c4 c5 c6 c7 c8 c9
 have HGX:=hid (HX1.out.later HFs.out.below)
 obtain⟨c0,c1,c2,c3,c4,c5,c6,c7,c8,c9⟩:=HGX.out.at
 rw [hk] at c0
 go_wp2_with fail
 refine (rn4 r.tx HOK.out.tx xs).mono ?_
 rintro e xt ⟨vv,rfl,hrow,hbt,hot⟩
 obtain⟨pt,ct,hv,_,hsl,hqt⟩:=hrow.sl
 have HPT:Hid (∀ a,pt=some a→w1.heap.size≤a.block):=hid fun a ha=>by have h1:=hot _ (hqt a ha);have h2:=HBS.out;omega
 have HV1:Hid (∀ k,v1.ownBlock=some k→k<w1.heap.size):=hid H1.out.row.bound
 clear hot hqt
 subst hv
 have HFt:=hid (HFs.out.later hbt)
 have HSt:=hid hsl
 have HSs:=hid (HSs.out.later hbt)
 clear hrow hbt hsl
 clear c0 c1 c2 c3 c4 c5 c6 c7 c8 c9
 have HGX:=hid (HX1.out.later HFt.out.below)
 obtain⟨c0,c1,c2,c3,c4,c5,c6,c7,c8,c9⟩:=HGX.out.at
 rw [hk] at c0
 go_upto_region 10 with (at_builtin;refine z0h (k:=1) (by decide) Tryz.underlying96 z1f rfl (by omega) rfl _ _ rfl v1 m1 (vL B1) rfl (by rw [← HL1.out];exact HFt.out.row.own) ps 4 cs (vL (le r.sg.toNat 4)) rfl (by rw [z1p,Nat.mul_one];exact HSs.out.len) (z2d HSs.out) (z2e HSs.out) (z1u _) (by omega) ?_;intro pn cn w3 h1 h2 h3)
 have hf:=HFt.out.app (M:=(le r.sg.toNat 4)) HSs.out.lt h1 h2 h3
 have HSt2:=hid (HSt.out.keep fun a ha hlt=>h2.block a.block hlt fun e=>by have:=HPT.out a ha;have:=HV1.out _ e;omega)
 clear h1 h2 h3
 generalize hB2:B1++(le r.sg.toNat 4)=B2 at hf
 have HBq2:=hid hB2
 have HL2:Hid (B2.length=m1+4):=hid (by rw [← hB2,List.length_append,HL1.out];first | rfl | (simp only [z0m];try omega))
 generalize Value.slice pn (m1+4) cn=v2 at *
 have H2:=hid hf
 clear hf hB2
 obtain⟨m2,hm2⟩:∃ z,m1+4=z:=⟨_,rfl⟩
 have hq2:m2≤m1+4:=by omega
 rw [hm2] at HL2
 clear hm2
 obtain⟨w2,hw2x⟩:∃ x,x=w3:=⟨_,rfl⟩
 subst hw2x
 clear c0 c1 c2 c3 c4 c5 c6 c7 c8 c9
 have HGX:=hid (HX1.out.later H2.out.below)
 obtain⟨c0,c1,c2,c3,c4,c5,c6,c7,c8,c9⟩:=HGX.out.at
 rw [hk] at c0
 go_upto_region 11 with (at_builtin;refine z0h (k:=1) (by decide) Tryz.underlying96 z1f rfl (by omega) rfl _ _ rfl v2 m2 (vL B2) rfl (by rw [← HL2.out];exact H2.out.row.own) pt 4 ct (vL (le r.tx.toNat 4)) rfl (by rw [z1p,Nat.mul_one];exact HSt2.out.len) (z2d HSt2.out) (z2e HSt2.out) (z1u _) (by omega) ?_;intro pn cn w3 h1 h2 h3)
 have hf:=H2.out.app (M:=(le r.tx.toNat 4)) HSt2.out.lt h1 h2 h3
 clear h1 h2 h3
 generalize hB3:B2++(le r.tx.toNat 4)=B3 at hf
 have HBq3:=hid hB3
 have HL3:Hid (B3.length=m2+4):=hid (by rw [← hB3,List.length_append,HL2.out];first | rfl | (simp only [z0m];try omega))
 generalize Value.slice pn (m2+4) cn=v3 at *
 have H3:=hid hf
 clear hf hB3
 obtain⟨m3,hm3⟩:∃ z,m2+4=z:=⟨_,rfl⟩
 have hq3:m3≤m2+4:=by omega
 rw [hm3] at HL3
 clear hm3
 obtain⟨w3,hw3x⟩:∃ x,x=w3:=⟨_,rfl⟩
 subst hw3x
 clear c0 c1 c2 c3 c4 c5 c6 c7 c8 c9
 have HGX:=hid (HX1.out.later H3.out.below)
 obtain⟨c0,c1,c2,c3,c4,c5,c6,c7,c8,c9⟩:=HGX.out.at
 rw [hk] at c0
 have HFA:=hid (H3.out.later (show Below w3.heap.size w3 (w3.alloc (.cells #[.int .u8 r.st] 5)) from (Below.refl _ _).alloc (Nat.le_refl _) _))
 go_upto_region 12 with (at_builtin;refine z0h (k:=1) (by decide) Tryz.underlying96 z1f rfl (by omega) rfl _ _ rfl v3 m3 (vL B3) rfl (by rw [← HL3.out];exact HFA.out.row.own) (some ⟨w3.heap.size,0,none⟩) 1 1 (vL [r.st.toNat]) rfl (by rw [z1p];rfl) (fun h=>by cases h) (byte_news w3 #[.int .u8 r.st] [r.st.toNat] (vL_one1 HOK.out.st)) (z1u _) (by omega) ?_;intro pn cn w3 h1 h2 h3)
 have hf:=HFA.out.app (M:=[r.st.toNat]) (fun y hy=>by obtain rfl:=List.mem_singleton.1 hy;have:=HOK.out.st;change 0≤r.st∧r.st≤255 at this;omega) h1 h2 h3
 clear h1 h2 h3
 generalize hB4:B3 ++ [r.st.toNat]=B4 at hf
 have HBq4:=hid hB4
 have HL4:Hid (B4.length=m3+1):=hid (by rw [← hB4,List.length_append,HL3.out];first | rfl | (simp only [z0m];try omega))
 generalize Value.slice pn (m3+1) cn=v4 at *
 have H4:=hid hf
 clear hf hB4
 obtain⟨m4,hm4⟩:∃ z,m3+1=z:=⟨_,rfl⟩
 have hq4:m4≤m3+1:=by omega
 rw [hm4] at HL4
 clear hm4
 obtain⟨w4,hw4x⟩:∃ x,x=w3:=⟨_,rfl⟩
 subst hw4x
 clear c0 c1 c2 c3 c4 c5 c6 c7 c8 c9
 have HGX:=hid (HX1.out.later H4.out.below)
 obtain⟨c0,c1,c2,c3,c4,c5,c6,c7,c8,c9⟩:=HGX.out.at
 rw [hk] at c0
 go_wp2_with fail
 refine (rbool_any r.cp w4).mono ?_
 rintro e y4 ⟨pw,cw,rfl,hsl,hb4⟩
 have HFA:=hid (H4.out.later hb4)
 have HSL:=hid hsl
 clear hb4 hsl
 clear c0 c1 c2 c3 c4 c5 c6 c7 c8 c9
 go_wp2_with (first | (at_builtin;refine z0h (k:=1) (by decide) Tryz.underlying96 z1f rfl (by omega) rfl _ _ rfl v4 m4 (vL B4) rfl (by rw [← HL4.out];exact HFA.out.row.own) pw 1 cw (vL [bitN r.cp]) rfl (by rw [z1p,Nat.mul_one];exact HSL.out.len) (z2d HSL.out) (z2e HSL.out) (z1u _) (by omega) ?_;intro pn cn w3 h1 h2 h3))
 have hf:=HFA.out.app (M:=[bitN r.cp]) HSL.out.lt h1 h2 h3
 clear h1 h2 h3
 generalize hB5:B4 ++ [bitN r.cp]=B5 at hf
 have HBq5:=hid hB5
 have HL5:Hid (B5.length=m4+1):=hid (by rw [← hB5,List.length_append,HL4.out];first | rfl | (simp only [z0m];try omega))
 generalize Value.slice pn (m4+1) cn=v5 at *
 have H5:=hid hf
 clear hf hB5
 obtain⟨m5,hm5⟩:∃ z,m4+1=z:=⟨_,rfl⟩
 have hq5:m5≤m4+1:=by omega
 rw [hm5] at HL5
 clear hm5
 obtain⟨w5,hw5x⟩:∃ x,x=w3:=⟨_,rfl⟩
 subst hw5x
 go_ret
 have hst:le r.st.toNat 1=[r.st.toNat]:=le_byt (by have e:=HOK.out.st;change 0≤r.st∧r.st≤255 at e;omega)
 have hoo:le r.o.toNat 1=[r.o.toNat]:=le_byt (by have e:=HOK.out.o;change 0≤r.o∧r.o≤255 at e;omega)
 have hfin:z0l (r.x L T M)=B5:=by
  rw [← HBq5.out,← HBq4.out,← HBq3.out,← HBq2.out,← HBq1.out]
  unfold z0l
  rw [show (r.x L T M).k=2 from hk,show le (2:Int).toNat 1=[2] from rfl]
  simp [kS,kT,kB,kA,kO,kP,Rv.x,keyB,List.append_assoc,hst,hoo]
 rw [hfin]
 exact⟨_,rfl,H5.out.row,HB1.out.trans (H5.out.below.mono HB1.out.size),fun k hk=>Nat.le_trans HB1.out.size (H5.out.own k hk)⟩
theorem rrec_bytes3 (r:Rv) (L:List Ln) (T:List Tk) (M:List Ln) (W:World) (hP:RvM W r L T M) (hok:Rxok (r.x L T M)) (h1:r.ln≤20∧r.tn≤30∧r.wn≤20) (hk:r.k=3):Calls Tryz.prog 86 #[.agg (rcs r)] W (Copied W (z0l (r.x L T M)).length (z0l (r.x L T M))):=by
 obtain⟨W1,hW1,hb1⟩:∃ W1,W.alloc (.cells (rcs r) 42)=W1∧Below W.heap.size W W1:=⟨_,rfl,(Below.refl _ _).alloc (Nat.le_refl _) _⟩
 obtain⟨B,hB⟩:∃ B,W.heap.size=B:=⟨_,rfl⟩
 have hrb:=RB.new W r
 rw [hW1,hB] at hrb
 have h0:FB W1 (W1.alloc (.cells #[.int .u8 3] 5)) (.slice (some ⟨W1.heap.size,0,none⟩) 1 1) [3]:=FB.lit (m:=1) (Below.refl _ _) rfl rfl (by omega) (fun x hx=>by obtain rfl:=List.mem_singleton.1 hx;omega)
 obtain⟨w1,hw1⟩:∃ w1,W1.alloc (.cells #[.int .u8 3] 5)=w1:=⟨_,rfl⟩
 rw [hw1] at h0
 have Hw1:=hid hw1
 have H1:=hid h0
 have HX1:=hid hrb
 have HW1:=hid hW1
 have HB1:=hid hb1
 have HRE:=hid hB
 have HOK:=hid hok
 have HP:=hid hP
 have HH:=hid h1
 have u1:IntKind.u64.wrap r.sg=r.sg:=z0n hok.sg
 have u2:IntKind.u64.wrap r.tx=r.tx:=z0n hok.tx
 have HGX:=hid (HX1.out)
 obtain⟨c0,c1,c2,c3,c4,c5,c6,c7,c8,c9⟩:=HGX.out.at
 rw [hk] at c0
 clear hW1 hB hb1 hrb hP h0 hw1 h1 hok
 go_enter Tryz.func86,Tryz.ntmps86
 go_upto_region 1 with (fail)
 rw [HW1.out,HRE.out]
 go_upto_region 2 with (fail)
 rw [Hw1.out]
 clear c0 c1 c2 c3 c4 c5 c6 c7 c8 c9
 obtain⟨v1,hv1⟩:∃ v1,Value.slice (some ⟨W1.heap.size,0,none⟩) 1 1=v1:=⟨_,rfl⟩
 rw [hv1] at H1 ⊢
 clear hv1
 obtain⟨B1,hB1⟩:∃ B1,[3]=B1:=⟨_,rfl⟩
 obtain⟨m1,hm1⟩:∃ m1,1=m1:=⟨_,rfl⟩
 have hq1:m1≤1:=by omega
 have HL1:Hid (B1.length=m1):=hid (by rw [← hB1,← hm1];rfl)
 clear hm1
 rw [hB1] at H1
 have HBq1:=hid hB1
 clear hB1
 have HGX:=hid (HX1.out.later H1.out.below)
 obtain⟨c0,c1,c2,c3,c4,c5,c6,c7,c8,c9⟩:=HGX.out.at
 rw [hk] at c0
 go_wp2_with fail
 refine (rn4 r.sg HOK.out.sg w1).mono ?_
 rintro e xs ⟨vv,rfl,hrow,hbs,_⟩
 obtain⟨ps,cs,hv,_,hsl,_⟩:=hrow.sl
 subst hv
 have HBS:=hid hbs.size
 have HFs:=hid (H1.out.later hbs)
 have HSs:=hid hsl
 clear hrow hbs hsl
 clear c0 c1 c2 c3 c4 c5 c6 c7 c8 c9
 have HGX:=hid (HX1.out.later HFs.out.below)
 obtain⟨c0,c1,c2,c3,c4,c5,c6,c7,c8,c9⟩:=HGX.out.at
 rw [hk] at c0
 go_wp2_with fail
 refine (rn4 r.tx HOK.out.tx xs).mono ?_
 rintro e xt ⟨vv,rfl,hrow,hbt,hot⟩
 obtain⟨pt,ct,hv,_,hsl,hqt⟩:=hrow.sl
 have HPT:Hid (∀ a,pt=some a→w1.heap.size≤a.block):=hid fun a ha=>by have h1:=hot _ (hqt a ha);have h2:=HBS.out;omega
 have HV1:Hid (∀ k,v1.ownBlock=some k→k<w1.heap.size):=hid H1.out.row.bound
 clear hot hqt
 subst hv
 have HFt:=hid (HFs.out.later hbt)
 have HSt:=hid hsl
 have HSs:=hid (HSs.out.later hbt)
 clear hrow hbt hsl
 clear c0 c1 c2 c3 c4 c5 c6 c7 c8 c9
 have HGX:=hid (HX1.out.later HFt.out.below)
 obtain⟨c0,c1,c2,c3,c4,c5,c6,c7,c8,c9⟩:=HGX.out.at
 rw [hk] at c0
 go_upto_region 16 with (at_builtin;refine z0h (k:=1) (by decide) Tryz.underlying96 z1f rfl (by omega) rfl _ _ rfl v1 m1 (vL B1) rfl (by rw [← HL1.out];exact HFt.out.row.own) pt 4 ct (vL (le r.tx.toNat 4)) rfl (by rw [z1p,Nat.mul_one];exact HSt.out.len) (z2d HSt.out) (z2e HSt.out) (z1u _) (by omega) ?_;intro pn cn w3 h1 h2 h3)
 have hf:=HFt.out.app (M:=(le r.tx.toNat 4)) HSt.out.lt h1 h2 h3
 clear h1 h2 h3
 generalize hB2:B1++(le r.tx.toNat 4)=B2 at hf
 have HBq2:=hid hB2
 have HL2:Hid (B2.length=m1+4):=hid (by rw [← hB2,List.length_append,HL1.out];first | rfl | (simp only [z0m];try omega))
 generalize Value.slice pn (m1+4) cn=v2 at *
 have H2:=hid hf
 clear hf hB2
 obtain⟨m2,hm2⟩:∃ z,m1+4=z:=⟨_,rfl⟩
 have hq2:m2≤m1+4:=by omega
 rw [hm2] at HL2
 clear hm2
 obtain⟨w2,hw2x⟩:∃ x,x=w3:=⟨_,rfl⟩
 subst hw2x
 clear c0 c1 c2 c3 c4 c5 c6 c7 c8 c9
 have HGX:=hid (HX1.out.later H2.out.below)
 obtain⟨c0,c1,c2,c3,c4,c5,c6,c7,c8,c9⟩:=HGX.out.at
 rw [hk] at c0
 have HFA:=hid (H2.out.later (show Below w2.heap.size w2 (w2.alloc (.cells #[.int .u8 r.ka,.int .u8 r.kb,.int .u8 r.kc] 5)) from (Below.refl _ _).alloc (Nat.le_refl _) _))
 go_upto_region 17 with (at_builtin;refine z0h (k:=1) (by decide) Tryz.underlying96 z1f rfl (by omega) rfl _ _ rfl v2 m2 (vL B2) rfl (by rw [← HL2.out];exact HFA.out.row.own) (some ⟨w2.heap.size,0,none⟩) 3 3 (vL [r.ka.toNat,r.kb.toNat,r.kc.toNat]) rfl (by rw [z1p];rfl) (fun h=>by cases h) (byte_news w2 #[.int .u8 r.ka,.int .u8 r.kb,.int .u8 r.kc] [r.ka.toNat,r.kb.toNat,r.kc.toNat] (vL_one3 HOK.out.key.1 HOK.out.key.2.1 HOK.out.key.2.2)) (z1u _) (by omega) ?_;intro pn cn w3 h1 h2 h3)
 have hf:=HFA.out.app (M:=[r.ka.toNat,r.kb.toNat,r.kc.toNat]) (fun y hy=>by have e1:=HOK.out.key.1;have e2:=HOK.out.key.2.1;have e3:=HOK.out.key.2.2;change 0≤r.ka∧r.ka≤255 at e1;change 0≤r.kb∧r.kb≤255 at e2;change 0≤r.kc∧r.kc≤255 at e3;simp only [List.mem_cons,List.not_mem_nil,or_false] at hy;omega) h1 h2 h3
 clear h1 h2 h3
 generalize hB3:B2 ++ [r.ka.toNat,r.kb.toNat,r.kc.toNat]=B3 at hf
 have HBq3:=hid hB3
 have HL3:Hid (B3.length=m2+3):=hid (by rw [← hB3,List.length_append,HL2.out];first | rfl | (simp only [z0m];try omega))
 generalize Value.slice pn (m2+3) cn=v3 at *
 have H3:=hid hf
 clear hf hB3
 obtain⟨m3,hm3⟩:∃ z,m2+3=z:=⟨_,rfl⟩
 have hq3:m3≤m2+3:=by omega
 rw [hm3] at HL3
 clear hm3
 obtain⟨w3,hw3x⟩:∃ x,x=w3:=⟨_,rfl⟩
 subst hw3x
 clear c0 c1 c2 c3 c4 c5 c6 c7 c8 c9
 have HGX:=hid (HX1.out.later H3.out.below)
 obtain⟨c0,c1,c2,c3,c4,c5,c6,c7,c8,c9⟩:=HGX.out.at
 rw [hk] at c0
 go_wp2_with fail
 refine (rint_q r.d w3 HOK.out.d).mono ?_
 rintro e y3 ⟨vv,rfl,hrow,hb4,_⟩
 obtain⟨pw,cw,hv,_,hsl,_⟩:=hrow.sl
 subst hv
 clear hrow
 have HFA:=hid (H3.out.later hb4)
 have HSL:=hid hsl
 clear hb4 hsl
 clear c0 c1 c2 c3 c4 c5 c6 c7 c8 c9
 go_wp2_with (first | (at_builtin;refine z0h (k:=1) (by decide) Tryz.underlying96 z1f rfl (by omega) rfl _ _ rfl v3 m3 (vL B3) rfl (by rw [← HL3.out];exact HFA.out.row.own) pw 8 cw (vL (le (Go.Proofs.YtclbkfpbdidaiaaGreatDoor.u64 r.d) 8)) rfl (by rw [z1p,Nat.mul_one];exact HSL.out.len) (z2d HSL.out) (z2e HSL.out) (z1u _) (by omega) ?_;intro pn cn w3 h1 h2 h3))
 have hf:=HFA.out.app (M:=(le (Go.Proofs.YtclbkfpbdidaiaaGreatDoor.u64 r.d) 8)) HSL.out.lt h1 h2 h3
 clear h1 h2 h3
 generalize hB4:B3++(le (Go.Proofs.YtclbkfpbdidaiaaGreatDoor.u64 r.d) 8)=B4 at hf
 have HBq4:=hid hB4
 have HL4:Hid (B4.length=m3+8):=hid (by rw [← hB4,List.length_append,HL3.out];first | rfl | (simp only [z0m];try omega))
 generalize Value.slice pn (m3+8) cn=v4 at *
 have H4:=hid hf
 clear hf hB4
 obtain⟨m4,hm4⟩:∃ z,m3+8=z:=⟨_,rfl⟩
 have hq4:m4≤m3+8:=by omega
 rw [hm4] at HL4
 clear hm4
 obtain⟨w4,hw4x⟩:∃ x,x=w3:=⟨_,rfl⟩
 subst hw4x
 go_ret
 have hst:le r.st.toNat 1=[r.st.toNat]:=le_byt (by have e:=HOK.out.st;change 0≤r.st∧r.st≤255 at e;omega)
 have hoo:le r.o.toNat 1=[r.o.toNat]:=le_byt (by have e:=HOK.out.o;change 0≤r.o∧r.o≤255 at e;omega)
 have hfin:z0l (r.x L T M)=B4:=by
  rw [← HBq4.out,← HBq3.out,← HBq2.out,← HBq1.out]
  unfold z0l
  rw [show (r.x L T M).k=3 from hk,show le (3:Int).toNat 1=[3] from rfl]
  simp [kS,kT,kB,kA,kO,kP,Rv.x,keyB,List.append_assoc,hst,hoo]
 rw [hfin]
 exact⟨_,rfl,H4.out.row,HB1.out.trans (H4.out.below.mono HB1.out.size),fun k hk=>Nat.le_trans HB1.out.size (H4.out.own k hk)⟩
theorem rrec_bytes4 (r:Rv) (L:List Ln) (T:List Tk) (M:List Ln) (W:World) (hP:RvM W r L T M) (hok:Rxok (r.x L T M)) (h1:r.ln≤20∧r.tn≤30∧r.wn≤20) (hk:r.k=4):Calls Tryz.prog 86 #[.agg (rcs r)] W (Copied W (z0l (r.x L T M)).length (z0l (r.x L T M))):=by
 obtain⟨W1,hW1,hb1⟩:∃ W1,W.alloc (.cells (rcs r) 42)=W1∧Below W.heap.size W W1:=⟨_,rfl,(Below.refl _ _).alloc (Nat.le_refl _) _⟩
 obtain⟨B,hB⟩:∃ B,W.heap.size=B:=⟨_,rfl⟩
 have hrb:=RB.new W r
 rw [hW1,hB] at hrb
 have h0:FB W1 (W1.alloc (.cells #[.int .u8 4] 5)) (.slice (some ⟨W1.heap.size,0,none⟩) 1 1) [4]:=FB.lit (m:=1) (Below.refl _ _) rfl rfl (by omega) (fun x hx=>by obtain rfl:=List.mem_singleton.1 hx;omega)
 obtain⟨w1,hw1⟩:∃ w1,W1.alloc (.cells #[.int .u8 4] 5)=w1:=⟨_,rfl⟩
 rw [hw1] at h0
 have Hw1:=hid hw1
 have H1:=hid h0
 have HX1:=hid hrb
 have HW1:=hid hW1
 have HB1:=hid hb1
 have HRE:=hid hB
 have HOK:=hid hok
 have HP:=hid hP
 have HH:=hid h1
 have u1:IntKind.u64.wrap r.sg=r.sg:=z0n hok.sg
 have u2:IntKind.u64.wrap r.tx=r.tx:=z0n hok.tx
 have HGX:=hid (HX1.out)
 obtain⟨c0,c1,c2,c3,c4,c5,c6,c7,c8,c9⟩:=HGX.out.at
 rw [hk] at c0
 clear hW1 hB hb1 hrb hP h0 hw1 h1 hok
 go_enter Tryz.func86,Tryz.ntmps86
 go_upto_region 1 with (fail)
 rw [HW1.out,HRE.out]
 go_upto_region 2 with (fail)
 rw [Hw1.out]
 clear c0 c1 c2 c3 c4 c5 c6 c7 c8 c9
 obtain⟨v1,hv1⟩:∃ v1,Value.slice (some ⟨W1.heap.size,0,none⟩) 1 1=v1:=⟨_,rfl⟩
 rw [hv1] at H1 ⊢
 clear hv1
 obtain⟨B1,hB1⟩:∃ B1,[4]=B1:=⟨_,rfl⟩
 obtain⟨m1,hm1⟩:∃ m1,1=m1:=⟨_,rfl⟩
 have hq1:m1≤1:=by omega
 have HL1:Hid (B1.length=m1):=hid (by rw [← hB1,← hm1];rfl)
 clear hm1
 rw [hB1] at H1
 have HBq1:=hid hB1
 clear hB1
 have HGX:=hid (HX1.out.later H1.out.below)
 obtain⟨c0,c1,c2,c3,c4,c5,c6,c7,c8,c9⟩:=HGX.out.at
 rw [hk] at c0
 go_wp2_with fail
 refine (rn4 r.sg HOK.out.sg w1).mono ?_
 rintro e xs ⟨vv,rfl,hrow,hbs,_⟩
 obtain⟨ps,cs,hv,_,hsl,_⟩:=hrow.sl
 subst hv
 have HBS:=hid hbs.size
 have HFs:=hid (H1.out.later hbs)
 have HSs:=hid hsl
 clear hrow hbs hsl
 clear c0 c1 c2 c3 c4 c5 c6 c7 c8 c9
 have HGX:=hid (HX1.out.later HFs.out.below)
 obtain⟨c0,c1,c2,c3,c4,c5,c6,c7,c8,c9⟩:=HGX.out.at
 rw [hk] at c0
 go_wp2_with fail
 refine (rn4 r.tx HOK.out.tx xs).mono ?_
 rintro e xt ⟨vv,rfl,hrow,hbt,hot⟩
 obtain⟨pt,ct,hv,_,hsl,hqt⟩:=hrow.sl
 have HPT:Hid (∀ a,pt=some a→w1.heap.size≤a.block):=hid fun a ha=>by have h1:=hot _ (hqt a ha);have h2:=HBS.out;omega
 have HV1:Hid (∀ k,v1.ownBlock=some k→k<w1.heap.size):=hid H1.out.row.bound
 clear hot hqt
 subst hv
 have HFt:=hid (HFs.out.later hbt)
 have HSt:=hid hsl
 have HSs:=hid (HSs.out.later hbt)
 clear hrow hbt hsl
 clear c0 c1 c2 c3 c4 c5 c6 c7 c8 c9
 have HGX:=hid (HX1.out.later HFt.out.below)
 obtain⟨c0,c1,c2,c3,c4,c5,c6,c7,c8,c9⟩:=HGX.out.at
 rw [hk] at c0
 go_wp2_with (first | (at_builtin;refine z0h (k:=1) (by decide) Tryz.underlying96 z1f rfl (by omega) rfl _ _ rfl v1 m1 (vL B1) rfl (by rw [← HL1.out];exact HFt.out.row.own) pt 4 ct (vL (le r.tx.toNat 4)) rfl (by rw [z1p,Nat.mul_one];exact HSt.out.len) (z2d HSt.out) (z2e HSt.out) (z1u _) (by omega) ?_;intro pn cn w3 h1 h2 h3))
 have hf:=HFt.out.app (M:=(le r.tx.toNat 4)) HSt.out.lt h1 h2 h3
 clear h1 h2 h3
 generalize hB2:B1++(le r.tx.toNat 4)=B2 at hf
 have HBq2:=hid hB2
 have HL2:Hid (B2.length=m1+4):=hid (by rw [← hB2,List.length_append,HL1.out];first | rfl | (simp only [z0m];try omega))
 generalize Value.slice pn (m1+4) cn=v2 at *
 have H2:=hid hf
 clear hf hB2
 obtain⟨m2,hm2⟩:∃ z,m1+4=z:=⟨_,rfl⟩
 have hq2:m2≤m1+4:=by omega
 rw [hm2] at HL2
 clear hm2
 obtain⟨w2,hw2x⟩:∃ x,x=w3:=⟨_,rfl⟩
 subst hw2x
 clear c0 c1 c2 c3 c4 c5 c6 c7 c8 c9
 go_ret
 have hst:le r.st.toNat 1=[r.st.toNat]:=le_byt (by have e:=HOK.out.st;change 0≤r.st∧r.st≤255 at e;omega)
 have hoo:le r.o.toNat 1=[r.o.toNat]:=le_byt (by have e:=HOK.out.o;change 0≤r.o∧r.o≤255 at e;omega)
 have hfin:z0l (r.x L T M)=B2:=by
  rw [← HBq2.out,← HBq1.out]
  unfold z0l
  rw [show (r.x L T M).k=4 from hk,show le (4:Int).toNat 1=[4] from rfl]
  simp [kS,kT,kB,kA,kO,kP,Rv.x,keyB,List.append_assoc,hst,hoo]
 rw [hfin]
 exact⟨_,rfl,H2.out.row,HB1.out.trans (H2.out.below.mono HB1.out.size),fun k hk=>Nat.le_trans HB1.out.size (H2.out.own k hk)⟩
theorem rrec_bytes5 (r:Rv) (L:List Ln) (T:List Tk) (M:List Ln) (W:World) (hP:RvM W r L T M) (hok:Rxok (r.x L T M)) (h1:r.ln≤20∧r.tn≤30∧r.wn≤20) (hk:r.k=5):Calls Tryz.prog 86 #[.agg (rcs r)] W (Copied W (z0l (r.x L T M)).length (z0l (r.x L T M))):=by
 obtain⟨W1,hW1,hb1⟩:∃ W1,W.alloc (.cells (rcs r) 42)=W1∧Below W.heap.size W W1:=⟨_,rfl,(Below.refl _ _).alloc (Nat.le_refl _) _⟩
 obtain⟨B,hB⟩:∃ B,W.heap.size=B:=⟨_,rfl⟩
 have hrb:=RB.new W r
 rw [hW1,hB] at hrb
 have h0:FB W1 (W1.alloc (.cells #[.int .u8 5] 5)) (.slice (some ⟨W1.heap.size,0,none⟩) 1 1) [5]:=FB.lit (m:=1) (Below.refl _ _) rfl rfl (by omega) (fun x hx=>by obtain rfl:=List.mem_singleton.1 hx;omega)
 obtain⟨w1,hw1⟩:∃ w1,W1.alloc (.cells #[.int .u8 5] 5)=w1:=⟨_,rfl⟩
 rw [hw1] at h0
 have Hw1:=hid hw1
 have H1:=hid h0
 have HX1:=hid hrb
 have HW1:=hid hW1
 have HB1:=hid hb1
 have HRE:=hid hB
 have HOK:=hid hok
 have HP:=hid hP
 have HH:=hid h1
 have u1:IntKind.u64.wrap r.sg=r.sg:=z0n hok.sg
 have u2:IntKind.u64.wrap r.tx=r.tx:=z0n hok.tx
 have HGX:=hid (HX1.out)
 obtain⟨c0,c1,c2,c3,c4,c5,c6,c7,c8,c9⟩:=HGX.out.at
 rw [hk] at c0
 clear hW1 hB hb1 hrb hP h0 hw1 h1 hok
 go_enter Tryz.func86,Tryz.ntmps86
 go_upto_region 1 with (fail)
 rw [HW1.out,HRE.out]
 go_upto_region 2 with (fail)
 rw [Hw1.out]
 clear c0 c1 c2 c3 c4 c5 c6 c7 c8 c9
 obtain⟨v1,hv1⟩:∃ v1,Value.slice (some ⟨W1.heap.size,0,none⟩) 1 1=v1:=⟨_,rfl⟩
 rw [hv1] at H1 ⊢
 clear hv1
 obtain⟨B1,hB1⟩:∃ B1,[5]=B1:=⟨_,rfl⟩
 obtain⟨m1,hm1⟩:∃ m1,1=m1:=⟨_,rfl⟩
 have hq1:m1≤1:=by omega
 have HL1:Hid (B1.length=m1):=hid (by rw [← hB1,← hm1];rfl)
 clear hm1
 rw [hB1] at H1
 have HBq1:=hid hB1
 clear hB1
 have HGX:=hid (HX1.out.later H1.out.below)
 obtain⟨c0,c1,c2,c3,c4,c5,c6,c7,c8,c9⟩:=HGX.out.at
 rw [hk] at c0
 go_wp2_with fail
 refine (rn4 r.sg HOK.out.sg w1).mono ?_
 rintro e xs ⟨vv,rfl,hrow,hbs,_⟩
 obtain⟨ps,cs,hv,_,hsl,_⟩:=hrow.sl
 subst hv
 have HBS:=hid hbs.size
 have HFs:=hid (H1.out.later hbs)
 have HSs:=hid hsl
 clear hrow hbs hsl
 clear c0 c1 c2 c3 c4 c5 c6 c7 c8 c9
 have HGX:=hid (HX1.out.later HFs.out.below)
 obtain⟨c0,c1,c2,c3,c4,c5,c6,c7,c8,c9⟩:=HGX.out.at
 rw [hk] at c0
 go_wp2_with fail
 refine (rn4 r.tx HOK.out.tx xs).mono ?_
 rintro e xt ⟨vv,rfl,hrow,hbt,hot⟩
 obtain⟨pt,ct,hv,_,hsl,hqt⟩:=hrow.sl
 have HPT:Hid (∀ a,pt=some a→w1.heap.size≤a.block):=hid fun a ha=>by have h1:=hot _ (hqt a ha);have h2:=HBS.out;omega
 have HV1:Hid (∀ k,v1.ownBlock=some k→k<w1.heap.size):=hid H1.out.row.bound
 clear hot hqt
 subst hv
 have HFt:=hid (HFs.out.later hbt)
 have HSt:=hid hsl
 have HSs:=hid (HSs.out.later hbt)
 clear hrow hbt hsl
 clear c0 c1 c2 c3 c4 c5 c6 c7 c8 c9
 have HGX:=hid (HX1.out.later HFt.out.below)
 obtain⟨c0,c1,c2,c3,c4,c5,c6,c7,c8,c9⟩:=HGX.out.at
 rw [hk] at c0
 go_wp2_with (first | (at_builtin;refine z0h (k:=1) (by decide) Tryz.underlying96 z1f rfl (by omega) rfl _ _ rfl v1 m1 (vL B1) rfl (by rw [← HL1.out];exact HFt.out.row.own) pt 4 ct (vL (le r.tx.toNat 4)) rfl (by rw [z1p,Nat.mul_one];exact HSt.out.len) (z2d HSt.out) (z2e HSt.out) (z1u _) (by omega) ?_;intro pn cn w3 h1 h2 h3))
 have hf:=HFt.out.app (M:=(le r.tx.toNat 4)) HSt.out.lt h1 h2 h3
 clear h1 h2 h3
 generalize hB2:B1++(le r.tx.toNat 4)=B2 at hf
 have HBq2:=hid hB2
 have HL2:Hid (B2.length=m1+4):=hid (by rw [← hB2,List.length_append,HL1.out];first | rfl | (simp only [z0m];try omega))
 generalize Value.slice pn (m1+4) cn=v2 at *
 have H2:=hid hf
 clear hf hB2
 obtain⟨m2,hm2⟩:∃ z,m1+4=z:=⟨_,rfl⟩
 have hq2:m2≤m1+4:=by omega
 rw [hm2] at HL2
 clear hm2
 obtain⟨w2,hw2x⟩:∃ x,x=w3:=⟨_,rfl⟩
 subst hw2x
 clear c0 c1 c2 c3 c4 c5 c6 c7 c8 c9
 go_ret
 have hst:le r.st.toNat 1=[r.st.toNat]:=le_byt (by have e:=HOK.out.st;change 0≤r.st∧r.st≤255 at e;omega)
 have hoo:le r.o.toNat 1=[r.o.toNat]:=le_byt (by have e:=HOK.out.o;change 0≤r.o∧r.o≤255 at e;omega)
 have hfin:z0l (r.x L T M)=B2:=by
  rw [← HBq2.out,← HBq1.out]
  unfold z0l
  rw [show (r.x L T M).k=5 from hk,show le (5:Int).toNat 1=[5] from rfl]
  simp [kS,kT,kB,kA,kO,kP,Rv.x,keyB,List.append_assoc,hst,hoo]
 rw [hfin]
 exact⟨_,rfl,H2.out.row,HB1.out.trans (H2.out.below.mono HB1.out.size),fun k hk=>Nat.le_trans HB1.out.size (H2.out.own k hk)⟩
theorem rrec_bytes6 (r:Rv) (L:List Ln) (T:List Tk) (M:List Ln) (W:World) (hP:RvM W r L T M) (hok:Rxok (r.x L T M)) (h1:r.ln≤20∧r.tn≤30∧r.wn≤20) (hk:r.k=6):Calls Tryz.prog 86 #[.agg (rcs r)] W (Copied W (z0l (r.x L T M)).length (z0l (r.x L T M))):=by
 obtain⟨W1,hW1,hb1⟩:∃ W1,W.alloc (.cells (rcs r) 42)=W1∧Below W.heap.size W W1:=⟨_,rfl,(Below.refl _ _).alloc (Nat.le_refl _) _⟩
 obtain⟨B,hB⟩:∃ B,W.heap.size=B:=⟨_,rfl⟩
 have hrb:=RB.new W r
 rw [hW1,hB] at hrb
 have h0:FB W1 (W1.alloc (.cells #[.int .u8 6] 5)) (.slice (some ⟨W1.heap.size,0,none⟩) 1 1) [6]:=FB.lit (m:=1) (Below.refl _ _) rfl rfl (by omega) (fun x hx=>by obtain rfl:=List.mem_singleton.1 hx;omega)
 obtain⟨w1,hw1⟩:∃ w1,W1.alloc (.cells #[.int .u8 6] 5)=w1:=⟨_,rfl⟩
 rw [hw1] at h0
 have Hw1:=hid hw1
 have H1:=hid h0
 have HX1:=hid hrb
 have HW1:=hid hW1
 have HB1:=hid hb1
 have HRE:=hid hB
 have HOK:=hid hok
 have HP:=hid hP
 have HH:=hid h1
 have u1:IntKind.u64.wrap r.sg=r.sg:=z0n hok.sg
 have u2:IntKind.u64.wrap r.tx=r.tx:=z0n hok.tx
 have HGX:=hid (HX1.out)
 obtain⟨c0,c1,c2,c3,c4,c5,c6,c7,c8,c9⟩:=HGX.out.at
 rw [hk] at c0
 clear hW1 hB hb1 hrb hP h0 hw1 h1 hok
 go_enter Tryz.func86,Tryz.ntmps86
 go_upto_region 1 with (fail)
 rw [HW1.out,HRE.out]
 go_upto_region 2 with (fail)
 rw [Hw1.out]
 clear c0 c1 c2 c3 c4 c5 c6 c7 c8 c9
 obtain⟨v1,hv1⟩:∃ v1,Value.slice (some ⟨W1.heap.size,0,none⟩) 1 1=v1:=⟨_,rfl⟩
 rw [hv1] at H1 ⊢
 clear hv1
 obtain⟨B1,hB1⟩:∃ B1,[6]=B1:=⟨_,rfl⟩
 obtain⟨m1,hm1⟩:∃ m1,1=m1:=⟨_,rfl⟩
 have hq1:m1≤1:=by omega
 have HL1:Hid (B1.length=m1):=hid (by rw [← hB1,← hm1];rfl)
 clear hm1
 rw [hB1] at H1
 have HBq1:=hid hB1
 clear hB1
 have HGX:=hid (HX1.out.later H1.out.below)
 obtain⟨c0,c1,c2,c3,c4,c5,c6,c7,c8,c9⟩:=HGX.out.at
 rw [hk] at c0
 go_wp2_with fail
 refine (rn4 r.sg HOK.out.sg w1).mono ?_
 rintro e xs ⟨vv,rfl,hrow,hbs,_⟩
 obtain⟨ps,cs,hv,_,hsl,_⟩:=hrow.sl
 subst hv
 have HBS:=hid hbs.size
 have HFs:=hid (H1.out.later hbs)
 have HSs:=hid hsl
 clear hrow hbs hsl
 clear c0 c1 c2 c3 c4 c5 c6 c7 c8 c9
 have HGX:=hid (HX1.out.later HFs.out.below)
 obtain⟨c0,c1,c2,c3,c4,c5,c6,c7,c8,c9⟩:=HGX.out.at
 rw [hk] at c0
 go_wp2_with fail
 refine (rn4 r.tx HOK.out.tx xs).mono ?_
 rintro e xt ⟨vv,rfl,hrow,hbt,hot⟩
 obtain⟨pt,ct,hv,_,hsl,hqt⟩:=hrow.sl
 have HPT:Hid (∀ a,pt=some a→w1.heap.size≤a.block):=hid fun a ha=>by have h1:=hot _ (hqt a ha);have h2:=HBS.out;omega
 have HV1:Hid (∀ k,v1.ownBlock=some k→k<w1.heap.size):=hid H1.out.row.bound
 clear hot hqt
 subst hv
 have HFt:=hid (HFs.out.later hbt)
 have HSt:=hid hsl
 have HSs:=hid (HSs.out.later hbt)
 clear hrow hbt hsl
 clear c0 c1 c2 c3 c4 c5 c6 c7 c8 c9
 have HGX:=hid (HX1.out.later HFt.out.below)
 obtain⟨c0,c1,c2,c3,c4,c5,c6,c7,c8,c9⟩:=HGX.out.at
 rw [hk] at c0
 go_upto_region 16 with (at_builtin;refine z0h (k:=1) (by decide) Tryz.underlying96 z1f rfl (by omega) rfl _ _ rfl v1 m1 (vL B1) rfl (by rw [← HL1.out];exact HFt.out.row.own) pt 4 ct (vL (le r.tx.toNat 4)) rfl (by rw [z1p,Nat.mul_one];exact HSt.out.len) (z2d HSt.out) (z2e HSt.out) (z1u _) (by omega) ?_;intro pn cn w3 h1 h2 h3)
 have hf:=HFt.out.app (M:=(le r.tx.toNat 4)) HSt.out.lt h1 h2 h3
 clear h1 h2 h3
 generalize hB2:B1++(le r.tx.toNat 4)=B2 at hf
 have HBq2:=hid hB2
 have HL2:Hid (B2.length=m1+4):=hid (by rw [← hB2,List.length_append,HL1.out];first | rfl | (simp only [z0m];try omega))
 generalize Value.slice pn (m1+4) cn=v2 at *
 have H2:=hid hf
 clear hf hB2
 obtain⟨m2,hm2⟩:∃ z,m1+4=z:=⟨_,rfl⟩
 have hq2:m2≤m1+4:=by omega
 rw [hm2] at HL2
 clear hm2
 obtain⟨w2,hw2x⟩:∃ x,x=w3:=⟨_,rfl⟩
 subst hw2x
 clear c0 c1 c2 c3 c4 c5 c6 c7 c8 c9
 have HGX:=hid (HX1.out.later H2.out.below)
 obtain⟨c0,c1,c2,c3,c4,c5,c6,c7,c8,c9⟩:=HGX.out.at
 rw [hk] at c0
 have HFA:=hid (H2.out.later (show Below w2.heap.size w2 (w2.alloc (.cells #[.int .u8 r.ka,.int .u8 r.kb,.int .u8 r.kc] 5)) from (Below.refl _ _).alloc (Nat.le_refl _) _))
 go_upto_region 17 with (at_builtin;refine z0h (k:=1) (by decide) Tryz.underlying96 z1f rfl (by omega) rfl _ _ rfl v2 m2 (vL B2) rfl (by rw [← HL2.out];exact HFA.out.row.own) (some ⟨w2.heap.size,0,none⟩) 3 3 (vL [r.ka.toNat,r.kb.toNat,r.kc.toNat]) rfl (by rw [z1p];rfl) (fun h=>by cases h) (byte_news w2 #[.int .u8 r.ka,.int .u8 r.kb,.int .u8 r.kc] [r.ka.toNat,r.kb.toNat,r.kc.toNat] (vL_one3 HOK.out.key.1 HOK.out.key.2.1 HOK.out.key.2.2)) (z1u _) (by omega) ?_;intro pn cn w3 h1 h2 h3)
 have hf:=HFA.out.app (M:=[r.ka.toNat,r.kb.toNat,r.kc.toNat]) (fun y hy=>by have e1:=HOK.out.key.1;have e2:=HOK.out.key.2.1;have e3:=HOK.out.key.2.2;change 0≤r.ka∧r.ka≤255 at e1;change 0≤r.kb∧r.kb≤255 at e2;change 0≤r.kc∧r.kc≤255 at e3;simp only [List.mem_cons,List.not_mem_nil,or_false] at hy;omega) h1 h2 h3
 clear h1 h2 h3
 generalize hB3:B2 ++ [r.ka.toNat,r.kb.toNat,r.kc.toNat]=B3 at hf
 have HBq3:=hid hB3
 have HL3:Hid (B3.length=m2+3):=hid (by rw [← hB3,List.length_append,HL2.out];first | rfl | (simp only [z0m];try omega))
 generalize Value.slice pn (m2+3) cn=v3 at *
 have H3:=hid hf
 clear hf hB3
 obtain⟨m3,hm3⟩:∃ z,m2+3=z:=⟨_,rfl⟩
 have hq3:m3≤m2+3:=by omega
 rw [hm3] at HL3
 clear hm3
 obtain⟨w3,hw3x⟩:∃ x,x=w3:=⟨_,rfl⟩
 subst hw3x
 clear c0 c1 c2 c3 c4 c5 c6 c7 c8 c9
 have HGX:=hid (HX1.out.later H3.out.below)
 obtain⟨c0,c1,c2,c3,c4,c5,c6,c7,c8,c9⟩:=HGX.out.at
 rw [hk] at c0
 go_wp2_with fail
 refine (rint_q r.d w3 HOK.out.d).mono ?_
 rintro e y3 ⟨vv,rfl,hrow,hb4,_⟩
 obtain⟨pw,cw,hv,_,hsl,_⟩:=hrow.sl
 subst hv
 clear hrow
 have HFA:=hid (H3.out.later hb4)
 have HSL:=hid hsl
 clear hb4 hsl
 clear c0 c1 c2 c3 c4 c5 c6 c7 c8 c9
 go_wp2_with (first | (at_builtin;refine z0h (k:=1) (by decide) Tryz.underlying96 z1f rfl (by omega) rfl _ _ rfl v3 m3 (vL B3) rfl (by rw [← HL3.out];exact HFA.out.row.own) pw 8 cw (vL (le (Go.Proofs.YtclbkfpbdidaiaaGreatDoor.u64 r.d) 8)) rfl (by rw [z1p,Nat.mul_one];exact HSL.out.len) (z2d HSL.out) (z2e HSL.out) (z1u _) (by omega) ?_;intro pn cn w3 h1 h2 h3))
 have hf:=HFA.out.app (M:=(le (Go.Proofs.YtclbkfpbdidaiaaGreatDoor.u64 r.d) 8)) HSL.out.lt h1 h2 h3
 clear h1 h2 h3
 generalize hB4:B3++(le (Go.Proofs.YtclbkfpbdidaiaaGreatDoor.u64 r.d) 8)=B4 at hf
 have HBq4:=hid hB4
 have HL4:Hid (B4.length=m3+8):=hid (by rw [← hB4,List.length_append,HL3.out];first | rfl | (simp only [z0m];try omega))
 generalize Value.slice pn (m3+8) cn=v4 at *
 have H4:=hid hf
 clear hf hB4
 obtain⟨m4,hm4⟩:∃ z,m3+8=z:=⟨_,rfl⟩
 have hq4:m4≤m3+8:=by omega
 rw [hm4] at HL4
 clear hm4
 obtain⟨w4,hw4x⟩:∃ x,x=w3:=⟨_,rfl⟩
 subst hw4x
 go_ret
 have hst:le r.st.toNat 1=[r.st.toNat]:=le_byt (by have e:=HOK.out.st;change 0≤r.st∧r.st≤255 at e;omega)
 have hoo:le r.o.toNat 1=[r.o.toNat]:=le_byt (by have e:=HOK.out.o;change 0≤r.o∧r.o≤255 at e;omega)
 have hfin:z0l (r.x L T M)=B4:=by
  rw [← HBq4.out,← HBq3.out,← HBq2.out,← HBq1.out]
  unfold z0l
  rw [show (r.x L T M).k=6 from hk,show le (6:Int).toNat 1=[6] from rfl]
  simp [kS,kT,kB,kA,kO,kP,Rv.x,keyB,List.append_assoc,hst,hoo]
 rw [hfin]
 exact⟨_,rfl,H4.out.row,HB1.out.trans (H4.out.below.mono HB1.out.size),fun k hk=>Nat.le_trans HB1.out.size (H4.out.own k hk)⟩
theorem rrec_bytes7 (r:Rv) (L:List Ln) (T:List Tk) (M:List Ln) (W:World) (hP:RvM W r L T M) (hok:Rxok (r.x L T M)) (h1:r.ln≤20∧r.tn≤30∧r.wn≤20) (hk:r.k=7):Calls Tryz.prog 86 #[.agg (rcs r)] W (Copied W (z0l (r.x L T M)).length (z0l (r.x L T M))):=by
 obtain⟨W1,hW1,hb1⟩:∃ W1,W.alloc (.cells (rcs r) 42)=W1∧Below W.heap.size W W1:=⟨_,rfl,(Below.refl _ _).alloc (Nat.le_refl _) _⟩
 obtain⟨B,hB⟩:∃ B,W.heap.size=B:=⟨_,rfl⟩
 have hrb:=RB.new W r
 rw [hW1,hB] at hrb
 have h0:FB W1 (W1.alloc (.cells #[.int .u8 7] 5)) (.slice (some ⟨W1.heap.size,0,none⟩) 1 1) [7]:=FB.lit (m:=1) (Below.refl _ _) rfl rfl (by omega) (fun x hx=>by obtain rfl:=List.mem_singleton.1 hx;omega)
 obtain⟨w1,hw1⟩:∃ w1,W1.alloc (.cells #[.int .u8 7] 5)=w1:=⟨_,rfl⟩
 rw [hw1] at h0
 have Hw1:=hid hw1
 have H1:=hid h0
 have HX1:=hid hrb
 have HW1:=hid hW1
 have HB1:=hid hb1
 have HRE:=hid hB
 have HOK:=hid hok
 have HP:=hid hP
 have HH:=hid h1
 have u1:IntKind.u64.wrap r.sg=r.sg:=z0n hok.sg
 have u2:IntKind.u64.wrap r.tx=r.tx:=z0n hok.tx
 have HGX:=hid (HX1.out)
 obtain⟨c0,c1,c2,c3,c4,c5,c6,c7,c8,c9⟩:=HGX.out.at
 rw [hk] at c0
 clear hW1 hB hb1 hrb hP h0 hw1 h1 hok
 go_enter Tryz.func86,Tryz.ntmps86
 go_upto_region 1 with (fail)
 rw [HW1.out,HRE.out]
 go_upto_region 2 with (fail)
 rw [Hw1.out]
 clear c0 c1 c2 c3 c4 c5 c6 c7 c8 c9
 obtain⟨v1,hv1⟩:∃ v1,Value.slice (some ⟨W1.heap.size,0,none⟩) 1 1=v1:=⟨_,rfl⟩
 rw [hv1] at H1 ⊢
 clear hv1
 obtain⟨B1,hB1⟩:∃ B1,[7]=B1:=⟨_,rfl⟩
 obtain⟨m1,hm1⟩:∃ m1,1=m1:=⟨_,rfl⟩
 have hq1:m1≤1:=by omega
 have HL1:Hid (B1.length=m1):=hid (by rw [← hB1,← hm1];rfl)
 clear hm1
 rw [hB1] at H1
 have HBq1:=hid hB1
 clear hB1
 have HGX:=hid (HX1.out.later H1.out.below)
 obtain⟨c0,c1,c2,c3,c4,c5,c6,c7,c8,c9⟩:=HGX.out.at
 rw [hk] at c0
 go_wp2_with fail
 refine (rn4 r.sg HOK.out.sg w1).mono ?_
 rintro e xs ⟨vv,rfl,hrow,hbs,_⟩
 obtain⟨ps,cs,hv,_,hsl,_⟩:=hrow.sl
 subst hv
 have HBS:=hid hbs.size
 have HFs:=hid (H1.out.later hbs)
 have HSs:=hid hsl
 clear hrow hbs hsl
 clear c0 c1 c2 c3 c4 c5 c6 c7 c8 c9
 have HGX:=hid (HX1.out.later HFs.out.below)
 obtain⟨c0,c1,c2,c3,c4,c5,c6,c7,c8,c9⟩:=HGX.out.at
 rw [hk] at c0
 go_wp2_with fail
 refine (rn4 r.tx HOK.out.tx xs).mono ?_
 rintro e xt ⟨vv,rfl,hrow,hbt,hot⟩
 obtain⟨pt,ct,hv,_,hsl,hqt⟩:=hrow.sl
 have HPT:Hid (∀ a,pt=some a→w1.heap.size≤a.block):=hid fun a ha=>by have h1:=hot _ (hqt a ha);have h2:=HBS.out;omega
 have HV1:Hid (∀ k,v1.ownBlock=some k→k<w1.heap.size):=hid H1.out.row.bound
 clear hot hqt
 subst hv
 have HFt:=hid (HFs.out.later hbt)
 have HSt:=hid hsl
 have HSs:=hid (HSs.out.later hbt)
 clear hrow hbt hsl
 clear c0 c1 c2 c3 c4 c5 c6 c7 c8 c9
 have HGX:=hid (HX1.out.later HFt.out.below)
 obtain⟨c0,c1,c2,c3,c4,c5,c6,c7,c8,c9⟩:=HGX.out.at
 rw [hk] at c0
 go_wp2_with (first | (at_builtin;refine z0h (k:=1) (by decide) Tryz.underlying96 z1f rfl (by omega) rfl _ _ rfl v1 m1 (vL B1) rfl (by rw [← HL1.out];exact HFt.out.row.own) pt 4 ct (vL (le r.tx.toNat 4)) rfl (by rw [z1p,Nat.mul_one];exact HSt.out.len) (z2d HSt.out) (z2e HSt.out) (z1u _) (by omega) ?_;intro pn cn w3 h1 h2 h3))
 have hf:=HFt.out.app (M:=(le r.tx.toNat 4)) HSt.out.lt h1 h2 h3
 clear h1 h2 h3
 generalize hB2:B1++(le r.tx.toNat 4)=B2 at hf
 have HBq2:=hid hB2
 have HL2:Hid (B2.length=m1+4):=hid (by rw [← hB2,List.length_append,HL1.out];first | rfl | (simp only [z0m];try omega))
 generalize Value.slice pn (m1+4) cn=v2 at *
 have H2:=hid hf
 clear hf hB2
 obtain⟨m2,hm2⟩:∃ z,m1+4=z:=⟨_,rfl⟩
 have hq2:m2≤m1+4:=by omega
 rw [hm2] at HL2
 clear hm2
 obtain⟨w2,hw2x⟩:∃ x,x=w3:=⟨_,rfl⟩
 subst hw2x
 clear c0 c1 c2 c3 c4 c5 c6 c7 c8 c9
 go_ret
 have hst:le r.st.toNat 1=[r.st.toNat]:=le_byt (by have e:=HOK.out.st;change 0≤r.st∧r.st≤255 at e;omega)
 have hoo:le r.o.toNat 1=[r.o.toNat]:=le_byt (by have e:=HOK.out.o;change 0≤r.o∧r.o≤255 at e;omega)
 have hfin:z0l (r.x L T M)=B2:=by
  rw [← HBq2.out,← HBq1.out]
  unfold z0l
  rw [show (r.x L T M).k=7 from hk,show le (7:Int).toNat 1=[7] from rfl]
  simp [kS,kT,kB,kA,kO,kP,Rv.x,keyB,List.append_assoc,hst,hoo]
 rw [hfin]
 exact⟨_,rfl,H2.out.row,HB1.out.trans (H2.out.below.mono HB1.out.size),fun k hk=>Nat.le_trans HB1.out.size (H2.out.own k hk)⟩
theorem rrec_bytes8 (r:Rv) (L:List Ln) (T:List Tk) (M:List Ln) (W:World) (hP:RvM W r L T M) (hok:Rxok (r.x L T M)) (h1:r.ln≤20∧r.tn≤30∧r.wn≤20) (hk:r.k=8):Calls Tryz.prog 86 #[.agg (rcs r)] W (Copied W (z0l (r.x L T M)).length (z0l (r.x L T M))):=by
 obtain⟨W1,hW1,hb1⟩:∃ W1,W.alloc (.cells (rcs r) 42)=W1∧Below W.heap.size W W1:=⟨_,rfl,(Below.refl _ _).alloc (Nat.le_refl _) _⟩
 obtain⟨B,hB⟩:∃ B,W.heap.size=B:=⟨_,rfl⟩
 have hrb:=RB.new W r
 rw [hW1,hB] at hrb
 have h0:FB W1 (W1.alloc (.cells #[.int .u8 8] 5)) (.slice (some ⟨W1.heap.size,0,none⟩) 1 1) [8]:=FB.lit (m:=1) (Below.refl _ _) rfl rfl (by omega) (fun x hx=>by obtain rfl:=List.mem_singleton.1 hx;omega)
 obtain⟨w1,hw1⟩:∃ w1,W1.alloc (.cells #[.int .u8 8] 5)=w1:=⟨_,rfl⟩
 rw [hw1] at h0
 have Hw1:=hid hw1
 have H1:=hid h0
 have HX1:=hid hrb
 have HW1:=hid hW1
 have HB1:=hid hb1
 have HRE:=hid hB
 have HOK:=hid hok
 have HP:=hid hP
 have HH:=hid h1
 have u1:IntKind.u64.wrap r.sg=r.sg:=z0n hok.sg
 have u2:IntKind.u64.wrap r.tx=r.tx:=z0n hok.tx
 have HGX:=hid (HX1.out)
 obtain⟨c0,c1,c2,c3,c4,c5,c6,c7,c8,c9⟩:=HGX.out.at
 rw [hk] at c0
 clear hW1 hB hb1 hrb hP h0 hw1 h1 hok
 go_enter Tryz.func86,Tryz.ntmps86
 go_upto_region 1 with (fail)
 rw [HW1.out,HRE.out]
 go_upto_region 2 with (fail)
 rw [Hw1.out]
 clear c0 c1 c2 c3 c4 c5 c6 c7 c8 c9
 obtain⟨v1,hv1⟩:∃ v1,Value.slice (some ⟨W1.heap.size,0,none⟩) 1 1=v1:=⟨_,rfl⟩
 rw [hv1] at H1 ⊢
 clear hv1
 obtain⟨B1,hB1⟩:∃ B1,[8]=B1:=⟨_,rfl⟩
 obtain⟨m1,hm1⟩:∃ m1,1=m1:=⟨_,rfl⟩
 have hq1:m1≤1:=by omega
 have HL1:Hid (B1.length=m1):=hid (by rw [← hB1,← hm1];rfl)
 clear hm1
 rw [hB1] at H1
 have HBq1:=hid hB1
 clear hB1
 have HGX:=hid (HX1.out.later H1.out.below)
 obtain⟨c0,c1,c2,c3,c4,c5,c6,c7,c8,c9⟩:=HGX.out.at
 rw [hk] at c0
 go_wp2_with fail
 refine (rn4 r.sg HOK.out.sg w1).mono ?_
 rintro e xs ⟨vv,rfl,hrow,hbs,_⟩
 obtain⟨ps,cs,hv,_,hsl,_⟩:=hrow.sl
 subst hv
 have HBS:=hid hbs.size
 have HFs:=hid (H1.out.later hbs)
 have HSs:=hid hsl
 clear hrow hbs hsl
 clear c0 c1 c2 c3 c4 c5 c6 c7 c8 c9
 have HGX:=hid (HX1.out.later HFs.out.below)
 obtain⟨c0,c1,c2,c3,c4,c5,c6,c7,c8,c9⟩:=HGX.out.at
 rw [hk] at c0
 go_wp2_with fail
 refine (rn4 r.tx HOK.out.tx xs).mono ?_
 rintro e xt ⟨vv,rfl,hrow,hbt,hot⟩
 obtain⟨pt,ct,hv,_,hsl,hqt⟩:=hrow.sl
 have HPT:Hid (∀ a,pt=some a→w1.heap.size≤a.block):=hid fun a ha=>by have h1:=hot _ (hqt a ha);have h2:=HBS.out;omega
 have HV1:Hid (∀ k,v1.ownBlock=some k→k<w1.heap.size):=hid H1.out.row.bound
 clear hot hqt
 subst hv
 have HFt:=hid (HFs.out.later hbt)
 have HSt:=hid hsl
 have HSs:=hid (HSs.out.later hbt)
 clear hrow hbt hsl
 clear c0 c1 c2 c3 c4 c5 c6 c7 c8 c9
 have HGX:=hid (HX1.out.later HFt.out.below)
 obtain⟨c0,c1,c2,c3,c4,c5,c6,c7,c8,c9⟩:=HGX.out.at
 rw [hk] at c0
 go_wp2_with (first | (at_builtin;refine z0h (k:=1) (by decide) Tryz.underlying96 z1f rfl (by omega) rfl _ _ rfl v1 m1 (vL B1) rfl (by rw [← HL1.out];exact HFt.out.row.own) ps 4 cs (vL (le r.sg.toNat 4)) rfl (by rw [z1p,Nat.mul_one];exact HSs.out.len) (z2d HSs.out) (z2e HSs.out) (z1u _) (by omega) ?_;intro pn cn w3 h1 h2 h3))
 have hf:=HFt.out.app (M:=(le r.sg.toNat 4)) HSs.out.lt h1 h2 h3
 clear h1 h2 h3
 generalize hB2:B1++(le r.sg.toNat 4)=B2 at hf
 have HBq2:=hid hB2
 have HL2:Hid (B2.length=m1+4):=hid (by rw [← hB2,List.length_append,HL1.out];first | rfl | (simp only [z0m];try omega))
 generalize Value.slice pn (m1+4) cn=v2 at *
 have H2:=hid hf
 clear hf hB2
 obtain⟨m2,hm2⟩:∃ z,m1+4=z:=⟨_,rfl⟩
 have hq2:m2≤m1+4:=by omega
 rw [hm2] at HL2
 clear hm2
 obtain⟨w2,hw2x⟩:∃ x,x=w3:=⟨_,rfl⟩
 subst hw2x
 clear c0 c1 c2 c3 c4 c5 c6 c7 c8 c9
 go_ret
 have hst:le r.st.toNat 1=[r.st.toNat]:=le_byt (by have e:=HOK.out.st;change 0≤r.st∧r.st≤255 at e;omega)
 have hoo:le r.o.toNat 1=[r.o.toNat]:=le_byt (by have e:=HOK.out.o;change 0≤r.o∧r.o≤255 at e;omega)
 have hfin:z0l (r.x L T M)=B2:=by
  rw [← HBq2.out,← HBq1.out]
  unfold z0l
  rw [show (r.x L T M).k=8 from hk,show le (8:Int).toNat 1=[8] from rfl]
  simp [kS,kT,kB,kA,kO,kP,Rv.x,keyB,List.append_assoc,hst,hoo]
 rw [hfin]
 exact⟨_,rfl,H2.out.row,HB1.out.trans (H2.out.below.mono HB1.out.size),fun k hk=>Nat.le_trans HB1.out.size (H2.out.own k hk)⟩
theorem rrec_bytes9 (r:Rv) (L:List Ln) (T:List Tk) (M:List Ln) (W:World) (hP:RvM W r L T M) (hok:Rxok (r.x L T M)) (h1:r.ln≤20∧r.tn≤30∧r.wn≤20) (hk:r.k=9):Calls Tryz.prog 86 #[.agg (rcs r)] W (Copied W (z0l (r.x L T M)).length (z0l (r.x L T M))):=by
 obtain⟨W1,hW1,hb1⟩:∃ W1,W.alloc (.cells (rcs r) 42)=W1∧Below W.heap.size W W1:=⟨_,rfl,(Below.refl _ _).alloc (Nat.le_refl _) _⟩
 obtain⟨B,hB⟩:∃ B,W.heap.size=B:=⟨_,rfl⟩
 have hrb:=RB.new W r
 rw [hW1,hB] at hrb
 have h0:FB W1 (W1.alloc (.cells #[.int .u8 9] 5)) (.slice (some ⟨W1.heap.size,0,none⟩) 1 1) [9]:=FB.lit (m:=1) (Below.refl _ _) rfl rfl (by omega) (fun x hx=>by obtain rfl:=List.mem_singleton.1 hx;omega)
 obtain⟨w1,hw1⟩:∃ w1,W1.alloc (.cells #[.int .u8 9] 5)=w1:=⟨_,rfl⟩
 rw [hw1] at h0
 have Hw1:=hid hw1
 have H1:=hid h0
 have HX1:=hid hrb
 have HW1:=hid hW1
 have HB1:=hid hb1
 have HRE:=hid hB
 have HOK:=hid hok
 have HP:=hid hP
 have HH:=hid h1
 have u1:IntKind.u64.wrap r.sg=r.sg:=z0n hok.sg
 have u2:IntKind.u64.wrap r.tx=r.tx:=z0n hok.tx
 have HGX:=hid (HX1.out)
 obtain⟨c0,c1,c2,c3,c4,c5,c6,c7,c8,c9⟩:=HGX.out.at
 rw [hk] at c0
 clear hW1 hB hb1 hrb hP h0 hw1 h1 hok
 go_enter Tryz.func86,Tryz.ntmps86
 go_upto_region 1 with (fail)
 rw [HW1.out,HRE.out]
 go_upto_region 2 with (fail)
 rw [Hw1.out]
 clear c0 c1 c2 c3 c4 c5 c6 c7 c8 c9
 obtain⟨v1,hv1⟩:∃ v1,Value.slice (some ⟨W1.heap.size,0,none⟩) 1 1=v1:=⟨_,rfl⟩
 rw [hv1] at H1 ⊢
 clear hv1
 obtain⟨B1,hB1⟩:∃ B1,[9]=B1:=⟨_,rfl⟩
 obtain⟨m1,hm1⟩:∃ m1,1=m1:=⟨_,rfl⟩
 have hq1:m1≤1:=by omega
 have HL1:Hid (B1.length=m1):=hid (by rw [← hB1,← hm1];rfl)
 clear hm1
 rw [hB1] at H1
 have HBq1:=hid hB1
 clear hB1
 have HGX:=hid (HX1.out.later H1.out.below)
 obtain⟨c0,c1,c2,c3,c4,c5,c6,c7,c8,c9⟩:=HGX.out.at
 rw [hk] at c0
 go_wp2_with fail
 refine (rn4 r.sg HOK.out.sg w1).mono ?_
 rintro e xs ⟨vv,rfl,hrow,hbs,_⟩
 obtain⟨ps,cs,hv,_,hsl,_⟩:=hrow.sl
 subst hv
 have HBS:=hid hbs.size
 have HFs:=hid (H1.out.later hbs)
 have HSs:=hid hsl
 clear hrow hbs hsl
 clear c0 c1 c2 c3 c4 c5 c6 c7 c8 c9
 have HGX:=hid (HX1.out.later HFs.out.below)
 obtain⟨c0,c1,c2,c3,c4,c5,c6,c7,c8,c9⟩:=HGX.out.at
 rw [hk] at c0
 go_wp2_with fail
 refine (rn4 r.tx HOK.out.tx xs).mono ?_
 rintro e xt ⟨vv,rfl,hrow,hbt,hot⟩
 obtain⟨pt,ct,hv,_,hsl,hqt⟩:=hrow.sl
 have HPT:Hid (∀ a,pt=some a→w1.heap.size≤a.block):=hid fun a ha=>by have h1:=hot _ (hqt a ha);have h2:=HBS.out;omega
 have HV1:Hid (∀ k,v1.ownBlock=some k→k<w1.heap.size):=hid H1.out.row.bound
 clear hot hqt
 subst hv
 have HFt:=hid (HFs.out.later hbt)
 have HSt:=hid hsl
 have HSs:=hid (HSs.out.later hbt)
 clear hrow hbt hsl
 clear c0 c1 c2 c3 c4 c5 c6 c7 c8 c9
 have HGX:=hid (HX1.out.later HFt.out.below)
 obtain⟨c0,c1,c2,c3,c4,c5,c6,c7,c8,c9⟩:=HGX.out.at
 rw [hk] at c0
 go_upto_region 25 with (at_builtin;refine z0h (k:=1) (by decide) Tryz.underlying96 z1f rfl (by omega) rfl _ _ rfl v1 m1 (vL B1) rfl (by rw [← HL1.out];exact HFt.out.row.own) ps 4 cs (vL (le r.sg.toNat 4)) rfl (by rw [z1p,Nat.mul_one];exact HSs.out.len) (z2d HSs.out) (z2e HSs.out) (z1u _) (by omega) ?_;intro pn cn w3 h1 h2 h3)
 have hf:=HFt.out.app (M:=(le r.sg.toNat 4)) HSs.out.lt h1 h2 h3
 clear h1 h2 h3
 generalize hB2:B1++(le r.sg.toNat 4)=B2 at hf
 have HBq2:=hid hB2
 have HL2:Hid (B2.length=m1+4):=hid (by rw [← hB2,List.length_append,HL1.out];first | rfl | (simp only [z0m];try omega))
 generalize Value.slice pn (m1+4) cn=v2 at *
 have H2:=hid hf
 clear hf hB2
 obtain⟨m2,hm2⟩:∃ z,m1+4=z:=⟨_,rfl⟩
 have hq2:m2≤m1+4:=by omega
 rw [hm2] at HL2
 clear hm2
 obtain⟨w2,hw2x⟩:∃ x,x=w3:=⟨_,rfl⟩
 subst hw2x
 clear c0 c1 c2 c3 c4 c5 c6 c7 c8 c9
 have HGX:=hid (HX1.out.later H2.out.below)
 obtain⟨c0,c1,c2,c3,c4,c5,c6,c7,c8,c9⟩:=HGX.out.at
 rw [hk] at c0
 have HFA:=hid (H2.out.later (show Below w2.heap.size w2 (w2.alloc (.cells #[.int .u8 r.o] 5)) from (Below.refl _ _).alloc (Nat.le_refl _) _))
 go_wp2_with (first | (at_builtin;refine z0h (k:=1) (by decide) Tryz.underlying96 z1f rfl (by omega) rfl _ _ rfl v2 m2 (vL B2) rfl (by rw [← HL2.out];exact HFA.out.row.own) (some ⟨w2.heap.size,0,none⟩) 1 1 (vL [r.o.toNat]) rfl (by rw [z1p];rfl) (fun h=>by cases h) (byte_news w2 #[.int .u8 r.o] [r.o.toNat] (vL_one1 HOK.out.o)) (z1u _) (by omega) ?_;intro pn cn w3 h1 h2 h3))
 have hf:=HFA.out.app (M:=[r.o.toNat]) (fun y hy=>by obtain rfl:=List.mem_singleton.1 hy;have:=HOK.out.o;change 0≤r.o∧r.o≤255 at this;omega) h1 h2 h3
 clear h1 h2 h3
 generalize hB3:B2 ++ [r.o.toNat]=B3 at hf
 have HBq3:=hid hB3
 have HL3:Hid (B3.length=m2+1):=hid (by rw [← hB3,List.length_append,HL2.out];first | rfl | (simp only [z0m];try omega))
 generalize Value.slice pn (m2+1) cn=v3 at *
 have H3:=hid hf
 clear hf hB3
 obtain⟨m3,hm3⟩:∃ z,m2+1=z:=⟨_,rfl⟩
 have hq3:m3≤m2+1:=by omega
 rw [hm3] at HL3
 clear hm3
 obtain⟨w3,hw3x⟩:∃ x,x=w3:=⟨_,rfl⟩
 subst hw3x
 clear c0 c1 c2 c3 c4 c5 c6 c7 c8 c9
 go_ret
 have hst:le r.st.toNat 1=[r.st.toNat]:=le_byt (by have e:=HOK.out.st;change 0≤r.st∧r.st≤255 at e;omega)
 have hoo:le r.o.toNat 1=[r.o.toNat]:=le_byt (by have e:=HOK.out.o;change 0≤r.o∧r.o≤255 at e;omega)
 have hfin:z0l (r.x L T M)=B3:=by
  rw [← HBq3.out,← HBq2.out,← HBq1.out]
  unfold z0l
  rw [show (r.x L T M).k=9 from hk,show le (9:Int).toNat 1=[9] from rfl]
  simp [kS,kT,kB,kA,kO,kP,Rv.x,keyB,List.append_assoc,hst,hoo]
 rw [hfin]
 exact⟨_,rfl,H3.out.row,HB1.out.trans (H3.out.below.mono HB1.out.size),fun k hk=>Nat.le_trans HB1.out.size (H3.out.own k hk)⟩
end Go.Proofs.YtclbkfpbdidaiaaGreatDoor
