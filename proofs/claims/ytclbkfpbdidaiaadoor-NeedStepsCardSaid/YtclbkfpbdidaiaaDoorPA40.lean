import Derived.Test.YtclbkfpbdidaiaaDoorPA39
namespace Go.Proofs.YtclbkfpbdidaiaaDoor
open Go.Lib (hid)
set_option maxHeartbeats 8000000
open Go.RowKit Go.ChangeShapes Go.WideShapes
set_option linter.unusedVariables false
set_option linter.unusedSimpArgs false
set_option maxRecDepth 10000
theorem rec_write1 (r:Rv) (L:List Ln) (T:List Tk) (M:List Ln) (W:World) (hok:Rxok (r.x L T M)) (hk:r.k=1) (hw:Words W) (hP:RvM W r L T M) (h1:r.ln≤400∧r.tn≤400∧r.wn≤400) (hg:z0s 4 4 (r.pg L T M)=true):Calls Tryd.prog 21 #[.agg (rcs r)] W (z2d W (z0f (r.x L T M))):=by
 obtain⟨W1,hW1,hb1⟩:∃ W1,W.alloc (.cells (rcs r) 44)=W1∧Below W.heap.size W W1:=⟨_,rfl,(Below.refl _ _).alloc (Nat.le_refl _) _⟩
 obtain⟨B,hB⟩:∃ B,W.heap.size=B:=⟨_,rfl⟩
 have hrb:=RB.new W r
 rw [hW1,hB] at hrb
 have HX1:=hid hrb
 have HW1:=hid hW1
 have HB1:=hid hb1
 have HRE:=hid hB
 have c0:W1.cell? ⟨B,0,none⟩=some (.int .u8 r.k):=z0a hrb rfl
 rw [hk] at c0
 clear hW1 hb1 hB hrb
 have HOK:=hid hok
 have u1:=z0i hok.sg
 have u2:=z0i hok.tx
 have u3:IntKind.u64.wrap r.st=r.st:=z0i ⟨hok.st.1,Int.le_trans hok.st.2 (by decide)⟩
 have u4:IntKind.u64.wrap r.o=r.o:=z0i ⟨hok.o.1,Int.le_trans hok.o.2 (by decide)⟩
 change IntKind.u64.wrap r.sg=r.sg at u1
 change IntKind.u64.wrap r.tx=r.tx at u2
 have hpa:=z0v 1 W1
 unfold z0u at hpa
 rw [show ptc 1=#[.bool true,.bool false,.bool false,.bool false,.bool false,.bool true] from rfl] at hpa
 have HEN:=hid (fun W' (hb:Below W.heap.size W W')=>encode_p r.pk r.od r.po r.lp r.ln r.lcp r.tp r.tn r.tcp r.wp r.wn r.wcp r.sk r.fr r.to r.q L T M W' (hw.later hb) (hP.later hb) hok.pg h1)
 have HPF:=hid (pg_few hg)
 have HGG:=hid hg
 clear hw hP h1 hg
 clear hok
 go_enter Tryd.func21,Tryd.ntmps21
 go_upto_region 1 with (fail)
 rw [HW1.out,HRE.out]
 go_wp2_with fail
 refine hpa.mono ?_
 rintro e w2 ⟨rfl,h2⟩
 have HB2:=hid (HB1.out.trans (h2.mono HB1.out.size))
 have HX2:=hid (HX1.out.later h2)
 clear h2 hpa c0
 obtain⟨N2,hN2⟩:∃ n,w2.heap.size=n:=⟨_,rfl⟩
 obtain⟨w3,hwn,hxn,hbn⟩:∃ w3,(w2.alloc (.cells pz 56)).setRow N2 #[.bool true,.bool false,.bool false,.bool false,.bool false,.bool true]=w3∧w3.heap[N2]?=some (.cells #[.bool true,.bool false,.bool false,.bool false,.bool false,.bool true] 56 (0,0))∧Below w2.heap.size w2 w3:=⟨_,rfl,by rw [← hN2];exact setRow_heap _ _ _ _ _ _ (z0b w2 _),below_setRow ((Below.refl _ _).alloc (Nat.le_refl _) _) (by omega) _⟩
 have hx2:=z0b w2 (.cells pz 56)
 rw [hN2] at hx2
 have HPX:=hid hxn
 have HPZ:=hid hx2
 have HBN:=hid hbn
 have HWN:=hid hwn
 have HNN:=hid hN2
 have HS6:Hid ((#[.bool true,.bool false,.bool false,.bool false,.bool false,.bool true]:Array Value).size=6):=hid rfl
 have HA6:Hid ((#[.bool true,.bool false,.bool false,.bool false,.bool false,.bool true]:Array Value).all (·.oneCell')=true):=hid (by simp [Value.oneCell'])
 clear hx2 hxn hbn hwn hN2
 have HB3:=hid (HB2.out.trans (HBN.out.mono HB2.out.size))
 have HX3:=hid (HX2.out.later HBN.out)
 go_wp2_with ((try rw [HNN.out]);(with_reducible refine z0e #[.bool true,.bool false,.bool false,.bool false,.bool false,.bool true] HS6.out HA6.out HPZ.out ?_ ?_ ?_);rfl;rfl;rw [HWN.out])
 refine (new_ok w3 w3 512 (Below.refl _ _)).mono ?_
 rintro e w4 ⟨Bw,rfl,hkk⟩
 rw [show lim 512=512 from rfl] at hkk
 have HK4:=hid hkk
 clear hkk
 have gp:=z0c HPX.out HK4.out.below
 have HGX:=hid (HX3.out.later HK4.out.below)
 have p0:w4.cell? ⟨N2,0,none⟩=some (.bool true):=z0a gp rfl
 have p1:w4.cell? ⟨N2,1,none⟩=some (.bool false):=z0a gp rfl
 have p2:w4.cell? ⟨N2,2,none⟩=some (.bool false):=z0a gp rfl
 have p3:w4.cell? ⟨N2,3,none⟩=some (.bool false):=z0a gp rfl
 have p4:w4.cell? ⟨N2,4,none⟩=some (.bool false):=z0a gp rfl
 have p5:w4.cell? ⟨N2,5,none⟩=some (.bool true):=z0a gp rfl
 obtain⟨c0,c1,c2,c3,c4,c5,c6,c7,c8,c9⟩:=HGX.out.at
 rw [hk] at c0
 clear gp
 go_wp2_with fail
 refine (wo_num1 HK4.out 1 (by omega) (by simp)).mono ?_
 rintro e w5 ⟨rfl,hkk⟩
 have HK5:=hid hkk
 clear hkk HK4
 clear p0 p1 p2 p3 p4 p5 c0 c1 c2 c3 c4 c5 c6 c7 c8 c9 HGX
 have gp:=z0c HPX.out HK5.out.below
 have HGX:=hid (HX3.out.later HK5.out.below)
 have p0:w5.cell? ⟨N2,0,none⟩=some (.bool true):=z0a gp rfl
 have p1:w5.cell? ⟨N2,1,none⟩=some (.bool false):=z0a gp rfl
 have p2:w5.cell? ⟨N2,2,none⟩=some (.bool false):=z0a gp rfl
 have p3:w5.cell? ⟨N2,3,none⟩=some (.bool false):=z0a gp rfl
 have p4:w5.cell? ⟨N2,4,none⟩=some (.bool false):=z0a gp rfl
 have p5:w5.cell? ⟨N2,5,none⟩=some (.bool true):=z0a gp rfl
 obtain⟨c0,c1,c2,c3,c4,c5,c6,c7,c8,c9⟩:=HGX.out.at
 rw [hk] at c0
 clear gp
 go_wp2_with fail
 refine (wo_num4 HK5.out r.sg HOK.out.sg (by simp only [List.length_append,List.length_nil,z0h];omega)).mono ?_
 rintro e w6 ⟨rfl,hkk⟩
 have HK6:=hid hkk
 clear hkk HK5
 clear p0 p1 p2 p3 p4 p5 c0 c1 c2 c3 c4 c5 c6 c7 c8 c9 HGX
 have gp:=z0c HPX.out HK6.out.below
 have HGX:=hid (HX3.out.later HK6.out.below)
 have p0:w6.cell? ⟨N2,0,none⟩=some (.bool true):=z0a gp rfl
 have p1:w6.cell? ⟨N2,1,none⟩=some (.bool false):=z0a gp rfl
 have p2:w6.cell? ⟨N2,2,none⟩=some (.bool false):=z0a gp rfl
 have p3:w6.cell? ⟨N2,3,none⟩=some (.bool false):=z0a gp rfl
 have p4:w6.cell? ⟨N2,4,none⟩=some (.bool false):=z0a gp rfl
 have p5:w6.cell? ⟨N2,5,none⟩=some (.bool true):=z0a gp rfl
 obtain⟨c0,c1,c2,c3,c4,c5,c6,c7,c8,c9⟩:=HGX.out.at
 rw [hk] at c0
 clear gp
 go_wp2_with ((with_reducible refine wpList_load_pr HGX.out ?_ ?_);rfl)
 refine (HEN.out w6 (HB3.out.trans (HK6.out.below.mono HB3.out.size))).mono ?_
 rintro e w7 ⟨hbe,hy⟩
 have hgg:z0s 4 4 ⟨r.pk,r.od,r.po,L,T,M,r.sk,r.fr,r.to,r.q⟩=true:=HGG.out
 rw [if_pos hgg] at hy
 obtain⟨py,cy,rfl,hsy,_,_⟩:=hy
 have HSY:=hid hsy
 have HK7:=hid (HK6.out.later (Chg.of_below (S:=fun _=>False) hbe))
 have hpf:(z1y ⟨r.pk,r.od,r.po,L,T,M,r.sk,r.fr,r.to,r.q⟩).length≤400:=HPF.out
 have HBP:Hid (z1y (r.pg L T M)=z1y ⟨r.pk,r.od,r.po,L,T,M,r.sk,r.fr,r.to,r.q⟩):=hid rfl
 generalize z1y ⟨r.pk,r.od,r.po,L,T,M,r.sk,r.fr,r.to,r.q⟩=Y at *
 generalize hny:Y.length=ny at *
 clear hsy hbe hgg HK6
 clear p0 p1 p2 p3 p4 p5 c0 c1 c2 c3 c4 c5 c6 c7 c8 c9 HGX
 have gp:=z0c HPX.out HK7.out.below
 have HGX:=hid (HX3.out.later HK7.out.below)
 have p0:w7.cell? ⟨N2,0,none⟩=some (.bool true):=z0a gp rfl
 have p1:w7.cell? ⟨N2,1,none⟩=some (.bool false):=z0a gp rfl
 have p2:w7.cell? ⟨N2,2,none⟩=some (.bool false):=z0a gp rfl
 have p3:w7.cell? ⟨N2,3,none⟩=some (.bool false):=z0a gp rfl
 have p4:w7.cell? ⟨N2,4,none⟩=some (.bool false):=z0a gp rfl
 have p5:w7.cell? ⟨N2,5,none⟩=some (.bool true):=z0a gp rfl
 obtain⟨c0,c1,c2,c3,c4,c5,c6,c7,c8,c9⟩:=HGX.out.at
 rw [hk] at c0
 clear gp
 go_wp2_with fail
 have HNY:=hid hny
 clear hny
 refine (wo_bytes HK7.out py ny cy Y HSY.out (by simp only [List.length_append,List.length_nil,z0h];omega)).mono ?_
 rintro e w8 ⟨rfl,hkk⟩
 have HK8:=hid hkk
 clear hkk HK7
 clear p0 p1 p2 p3 p4 p5 c0 c1 c2 c3 c4 c5 c6 c7 c8 c9 HGX
 have gp:=z0c HPX.out HK8.out.below
 have HGX:=hid (HX3.out.later HK8.out.below)
 have p0:w8.cell? ⟨N2,0,none⟩=some (.bool true):=z0a gp rfl
 have p1:w8.cell? ⟨N2,1,none⟩=some (.bool false):=z0a gp rfl
 have p2:w8.cell? ⟨N2,2,none⟩=some (.bool false):=z0a gp rfl
 have p3:w8.cell? ⟨N2,3,none⟩=some (.bool false):=z0a gp rfl
 have p4:w8.cell? ⟨N2,4,none⟩=some (.bool false):=z0a gp rfl
 have p5:w8.cell? ⟨N2,5,none⟩=some (.bool true):=z0a gp rfl
 obtain⟨c0,c1,c2,c3,c4,c5,c6,c7,c8,c9⟩:=HGX.out.at
 rw [hk] at c0
 clear gp
 go_wp2_with fail
 have hbx:(((([]:List Nat)++le ((1:Int)).toNat 1)++le r.sg.toNat 4)++(le Y.length 2++Y))=z0f (r.x L T M):=by
  unfold z0f
  rw [show ((r.x L T M)).k=1 from hk]
  simp [kS,kT,kB,kA,kO,kP,Rv.x,List.append_assoc,HBP.out]
 have hlx:(z0f (r.x L T M)).length≤100000:=by rw [← hbx];simp only [List.length_append,List.length_nil,z0h];have:=HNY.out;omega
 have HKz:Hid (WrOk w3 w8 Bw 512 (0,z0f (r.x L T M))):=hid (by rw [← hbx];exact HK8.out)
 clear hbx HK8
 generalize z0f (r.x L T M)=Z at *
 refine (z2b w3 w8 Bw 512 Z HKz.out hlx).mono ?_
 rintro e w9 ⟨pz',cz,rfl,hbz,hsz,_⟩
 have HF:Hid (z2d W Z (.returned (.tuple #[.slice pz' Z.length cz,.int .i64 0])) w9):=hid ⟨pz',cz,rfl,hsz,HB3.out.trans (hbz.mono HB3.out.size)⟩
 clear hbz hsz hlx
 generalize Z.length=nz at *
 clear p0 p1 p2 p3 p4 p5 c0 c1 c2 c3 c4 c5 c6 c7 c8 c9 HGX
 go_wp2_with fail
 go_ret2
 exact HF.out
theorem rec_write2 (r:Rv) (L:List Ln) (T:List Tk) (M:List Ln) (W:World) (hok:Rxok (r.x L T M)) (hk:r.k=2):Calls Tryd.prog 21 #[.agg (rcs r)] W (z2d W (z0f (r.x L T M))):=by
 obtain⟨W1,hW1,hb1⟩:∃ W1,W.alloc (.cells (rcs r) 44)=W1∧Below W.heap.size W W1:=⟨_,rfl,(Below.refl _ _).alloc (Nat.le_refl _) _⟩
 obtain⟨B,hB⟩:∃ B,W.heap.size=B:=⟨_,rfl⟩
 have hrb:=RB.new W r
 rw [hW1,hB] at hrb
 have HX1:=hid hrb
 have HW1:=hid hW1
 have HB1:=hid hb1
 have HRE:=hid hB
 have c0:W1.cell? ⟨B,0,none⟩=some (.int .u8 r.k):=z0a hrb rfl
 rw [hk] at c0
 clear hW1 hb1 hB hrb
 have HOK:=hid hok
 have u1:=z0i hok.sg
 have u2:=z0i hok.tx
 have u3:IntKind.u64.wrap r.st=r.st:=z0i ⟨hok.st.1,Int.le_trans hok.st.2 (by decide)⟩
 have u4:IntKind.u64.wrap r.o=r.o:=z0i ⟨hok.o.1,Int.le_trans hok.o.2 (by decide)⟩
 change IntKind.u64.wrap r.sg=r.sg at u1
 change IntKind.u64.wrap r.tx=r.tx at u2
 have hpa:=z0v 2 W1
 unfold z0u at hpa
 rw [show ptc 2=#[.bool true,.bool true,.bool true,.bool false,.bool false,.bool false] from rfl] at hpa
 clear hok
 go_enter Tryd.func21,Tryd.ntmps21
 go_upto_region 1 with (fail)
 rw [HW1.out,HRE.out]
 go_wp2_with fail
 refine hpa.mono ?_
 rintro e w2 ⟨rfl,h2⟩
 have HB2:=hid (HB1.out.trans (h2.mono HB1.out.size))
 have HX2:=hid (HX1.out.later h2)
 clear h2 hpa c0
 obtain⟨N2,hN2⟩:∃ n,w2.heap.size=n:=⟨_,rfl⟩
 obtain⟨w3,hwn,hxn,hbn⟩:∃ w3,(w2.alloc (.cells pz 56)).setRow N2 #[.bool true,.bool true,.bool true,.bool false,.bool false,.bool false]=w3∧w3.heap[N2]?=some (.cells #[.bool true,.bool true,.bool true,.bool false,.bool false,.bool false] 56 (0,0))∧Below w2.heap.size w2 w3:=⟨_,rfl,by rw [← hN2];exact setRow_heap _ _ _ _ _ _ (z0b w2 _),below_setRow ((Below.refl _ _).alloc (Nat.le_refl _) _) (by omega) _⟩
 have hx2:=z0b w2 (.cells pz 56)
 rw [hN2] at hx2
 have HPX:=hid hxn
 have HPZ:=hid hx2
 have HBN:=hid hbn
 have HWN:=hid hwn
 have HNN:=hid hN2
 have HS6:Hid ((#[.bool true,.bool true,.bool true,.bool false,.bool false,.bool false]:Array Value).size=6):=hid rfl
 have HA6:Hid ((#[.bool true,.bool true,.bool true,.bool false,.bool false,.bool false]:Array Value).all (·.oneCell')=true):=hid (by simp [Value.oneCell'])
 clear hx2 hxn hbn hwn hN2
 have HB3:=hid (HB2.out.trans (HBN.out.mono HB2.out.size))
 have HX3:=hid (HX2.out.later HBN.out)
 go_wp2_with ((try rw [HNN.out]);(with_reducible refine z0e #[.bool true,.bool true,.bool true,.bool false,.bool false,.bool false] HS6.out HA6.out HPZ.out ?_ ?_ ?_);rfl;rfl;rw [HWN.out])
 refine (new_ok w3 w3 512 (Below.refl _ _)).mono ?_
 rintro e w4 ⟨Bw,rfl,hkk⟩
 rw [show lim 512=512 from rfl] at hkk
 have HK4:=hid hkk
 clear hkk
 have gp:=z0c HPX.out HK4.out.below
 have HGX:=hid (HX3.out.later HK4.out.below)
 have p0:w4.cell? ⟨N2,0,none⟩=some (.bool true):=z0a gp rfl
 have p1:w4.cell? ⟨N2,1,none⟩=some (.bool true):=z0a gp rfl
 have p2:w4.cell? ⟨N2,2,none⟩=some (.bool true):=z0a gp rfl
 have p3:w4.cell? ⟨N2,3,none⟩=some (.bool false):=z0a gp rfl
 have p4:w4.cell? ⟨N2,4,none⟩=some (.bool false):=z0a gp rfl
 have p5:w4.cell? ⟨N2,5,none⟩=some (.bool false):=z0a gp rfl
 obtain⟨c0,c1,c2,c3,c4,c5,c6,c7,c8,c9⟩:=HGX.out.at
 rw [hk] at c0
 clear gp
 go_wp2_with fail
 refine (wo_num1 HK4.out 2 (by omega) (by simp)).mono ?_
 rintro e w5 ⟨rfl,hkk⟩
 have HK5:=hid hkk
 clear hkk HK4
 clear p0 p1 p2 p3 p4 p5 c0 c1 c2 c3 c4 c5 c6 c7 c8 c9 HGX
 have gp:=z0c HPX.out HK5.out.below
 have HGX:=hid (HX3.out.later HK5.out.below)
 have p0:w5.cell? ⟨N2,0,none⟩=some (.bool true):=z0a gp rfl
 have p1:w5.cell? ⟨N2,1,none⟩=some (.bool true):=z0a gp rfl
 have p2:w5.cell? ⟨N2,2,none⟩=some (.bool true):=z0a gp rfl
 have p3:w5.cell? ⟨N2,3,none⟩=some (.bool false):=z0a gp rfl
 have p4:w5.cell? ⟨N2,4,none⟩=some (.bool false):=z0a gp rfl
 have p5:w5.cell? ⟨N2,5,none⟩=some (.bool false):=z0a gp rfl
 obtain⟨c0,c1,c2,c3,c4,c5,c6,c7,c8,c9⟩:=HGX.out.at
 rw [hk] at c0
 clear gp
 go_wp2_with fail
 refine (wo_num4 HK5.out r.sg HOK.out.sg (by simp only [List.length_append,List.length_nil,z0h];omega)).mono ?_
 rintro e w6 ⟨rfl,hkk⟩
 have HK6:=hid hkk
 clear hkk HK5
 clear p0 p1 p2 p3 p4 p5 c0 c1 c2 c3 c4 c5 c6 c7 c8 c9 HGX
 have gp:=z0c HPX.out HK6.out.below
 have HGX:=hid (HX3.out.later HK6.out.below)
 have p0:w6.cell? ⟨N2,0,none⟩=some (.bool true):=z0a gp rfl
 have p1:w6.cell? ⟨N2,1,none⟩=some (.bool true):=z0a gp rfl
 have p2:w6.cell? ⟨N2,2,none⟩=some (.bool true):=z0a gp rfl
 have p3:w6.cell? ⟨N2,3,none⟩=some (.bool false):=z0a gp rfl
 have p4:w6.cell? ⟨N2,4,none⟩=some (.bool false):=z0a gp rfl
 have p5:w6.cell? ⟨N2,5,none⟩=some (.bool false):=z0a gp rfl
 obtain⟨c0,c1,c2,c3,c4,c5,c6,c7,c8,c9⟩:=HGX.out.at
 rw [hk] at c0
 clear gp
 go_wp2_with fail
 refine (wo_num4 HK6.out r.tx HOK.out.tx (by simp only [List.length_append,List.length_nil,z0h];omega)).mono ?_
 rintro e w7 ⟨rfl,hkk⟩
 have HK7:=hid hkk
 clear hkk HK6
 clear p0 p1 p2 p3 p4 p5 c0 c1 c2 c3 c4 c5 c6 c7 c8 c9 HGX
 have gp:=z0c HPX.out HK7.out.below
 have HGX:=hid (HX3.out.later HK7.out.below)
 have p0:w7.cell? ⟨N2,0,none⟩=some (.bool true):=z0a gp rfl
 have p1:w7.cell? ⟨N2,1,none⟩=some (.bool true):=z0a gp rfl
 have p2:w7.cell? ⟨N2,2,none⟩=some (.bool true):=z0a gp rfl
 have p3:w7.cell? ⟨N2,3,none⟩=some (.bool false):=z0a gp rfl
 have p4:w7.cell? ⟨N2,4,none⟩=some (.bool false):=z0a gp rfl
 have p5:w7.cell? ⟨N2,5,none⟩=some (.bool false):=z0a gp rfl
 obtain⟨c0,c1,c2,c3,c4,c5,c6,c7,c8,c9⟩:=HGX.out.at
 rw [hk] at c0
 clear gp
 go_wp2_with fail
 refine (wo_num1 HK7.out r.st HOK.out.st (by simp only [List.length_append,List.length_nil,z0h];omega)).mono ?_
 rintro e w8 ⟨rfl,hkk⟩
 have HK8:=hid hkk
 clear hkk HK7
 clear p0 p1 p2 p3 p4 p5 c0 c1 c2 c3 c4 c5 c6 c7 c8 c9 HGX
 have gp:=z0c HPX.out HK8.out.below
 have HGX:=hid (HX3.out.later HK8.out.below)
 have p0:w8.cell? ⟨N2,0,none⟩=some (.bool true):=z0a gp rfl
 have p1:w8.cell? ⟨N2,1,none⟩=some (.bool true):=z0a gp rfl
 have p2:w8.cell? ⟨N2,2,none⟩=some (.bool true):=z0a gp rfl
 have p3:w8.cell? ⟨N2,3,none⟩=some (.bool false):=z0a gp rfl
 have p4:w8.cell? ⟨N2,4,none⟩=some (.bool false):=z0a gp rfl
 have p5:w8.cell? ⟨N2,5,none⟩=some (.bool false):=z0a gp rfl
 obtain⟨c0,c1,c2,c3,c4,c5,c6,c7,c8,c9⟩:=HGX.out.at
 rw [hk] at c0
 clear gp
 go_wp2_with fail
 refine (wo_bool HK8.out r.cp (by simp only [List.length_append,List.length_nil,z0h];omega)).mono ?_
 rintro e w9 ⟨rfl,hkk⟩
 have HK9:=hid hkk
 clear hkk HK8
 clear p0 p1 p2 p3 p4 p5 c0 c1 c2 c3 c4 c5 c6 c7 c8 c9 HGX
 have gp:=z0c HPX.out HK9.out.below
 have HGX:=hid (HX3.out.later HK9.out.below)
 have p0:w9.cell? ⟨N2,0,none⟩=some (.bool true):=z0a gp rfl
 have p1:w9.cell? ⟨N2,1,none⟩=some (.bool true):=z0a gp rfl
 have p2:w9.cell? ⟨N2,2,none⟩=some (.bool true):=z0a gp rfl
 have p3:w9.cell? ⟨N2,3,none⟩=some (.bool false):=z0a gp rfl
 have p4:w9.cell? ⟨N2,4,none⟩=some (.bool false):=z0a gp rfl
 have p5:w9.cell? ⟨N2,5,none⟩=some (.bool false):=z0a gp rfl
 obtain⟨c0,c1,c2,c3,c4,c5,c6,c7,c8,c9⟩:=HGX.out.at
 rw [hk] at c0
 clear gp
 go_wp2_with fail
 have hbx:(((((([]:List Nat)++le ((2:Int)).toNat 1)++le r.sg.toNat 4)++le r.tx.toNat 4)++le r.st.toNat 1) ++ [bitN r.cp])=z0f (r.x L T M):=by
  unfold z0f
  rw [show ((r.x L T M)).k=2 from hk]
  simp [kS,kT,kB,kA,kO,kP,Rv.x,List.append_assoc]
 have hlx:(z0f (r.x L T M)).length≤100000:=by rw [← hbx];simp only [List.length_append,List.length_nil,List.length_cons,z0h,keyB];omega
 have HKz:Hid (WrOk w3 w9 Bw 512 (0,z0f (r.x L T M))):=hid (by rw [← hbx];exact HK9.out)
 clear hbx HK9
 generalize z0f (r.x L T M)=Z at *
 refine (z2b w3 w9 Bw 512 Z HKz.out hlx).mono ?_
 rintro e w10 ⟨pz',cz,rfl,hbz,hsz,_⟩
 have HF:Hid (z2d W Z (.returned (.tuple #[.slice pz' Z.length cz,.int .i64 0])) w10):=hid ⟨pz',cz,rfl,hsz,HB3.out.trans (hbz.mono HB3.out.size)⟩
 clear hbz hsz hlx
 generalize Z.length=nz at *
 clear p0 p1 p2 p3 p4 p5 c0 c1 c2 c3 c4 c5 c6 c7 c8 c9 HGX
 go_wp2_with fail
 go_ret2
 exact HF.out
theorem rec_write3 (r:Rv) (L:List Ln) (T:List Tk) (M:List Ln) (W:World) (hok:Rxok (r.x L T M)) (hk:r.k=3):Calls Tryd.prog 21 #[.agg (rcs r)] W (z2d W (z0f (r.x L T M))):=by
 obtain⟨W1,hW1,hb1⟩:∃ W1,W.alloc (.cells (rcs r) 44)=W1∧Below W.heap.size W W1:=⟨_,rfl,(Below.refl _ _).alloc (Nat.le_refl _) _⟩
 obtain⟨B,hB⟩:∃ B,W.heap.size=B:=⟨_,rfl⟩
 have hrb:=RB.new W r
 rw [hW1,hB] at hrb
 have HX1:=hid hrb
 have HW1:=hid hW1
 have HB1:=hid hb1
 have HRE:=hid hB
 have c0:W1.cell? ⟨B,0,none⟩=some (.int .u8 r.k):=z0a hrb rfl
 rw [hk] at c0
 clear hW1 hb1 hB hrb
 have HOK:=hid hok
 have u1:=z0i hok.sg
 have u2:=z0i hok.tx
 have u3:IntKind.u64.wrap r.st=r.st:=z0i ⟨hok.st.1,Int.le_trans hok.st.2 (by decide)⟩
 have u4:IntKind.u64.wrap r.o=r.o:=z0i ⟨hok.o.1,Int.le_trans hok.o.2 (by decide)⟩
 change IntKind.u64.wrap r.sg=r.sg at u1
 change IntKind.u64.wrap r.tx=r.tx at u2
 have hpa:=z0v 3 W1
 unfold z0u at hpa
 rw [show ptc 3=#[.bool false,.bool true,.bool false,.bool true,.bool false,.bool false] from rfl] at hpa
 clear hok
 go_enter Tryd.func21,Tryd.ntmps21
 go_upto_region 1 with (fail)
 rw [HW1.out,HRE.out]
 go_wp2_with fail
 refine hpa.mono ?_
 rintro e w2 ⟨rfl,h2⟩
 have HB2:=hid (HB1.out.trans (h2.mono HB1.out.size))
 have HX2:=hid (HX1.out.later h2)
 clear h2 hpa c0
 obtain⟨N2,hN2⟩:∃ n,w2.heap.size=n:=⟨_,rfl⟩
 obtain⟨w3,hwn,hxn,hbn⟩:∃ w3,(w2.alloc (.cells pz 56)).setRow N2 #[.bool false,.bool true,.bool false,.bool true,.bool false,.bool false]=w3∧w3.heap[N2]?=some (.cells #[.bool false,.bool true,.bool false,.bool true,.bool false,.bool false] 56 (0,0))∧Below w2.heap.size w2 w3:=⟨_,rfl,by rw [← hN2];exact setRow_heap _ _ _ _ _ _ (z0b w2 _),below_setRow ((Below.refl _ _).alloc (Nat.le_refl _) _) (by omega) _⟩
 have hx2:=z0b w2 (.cells pz 56)
 rw [hN2] at hx2
 have HPX:=hid hxn
 have HPZ:=hid hx2
 have HBN:=hid hbn
 have HWN:=hid hwn
 have HNN:=hid hN2
 have HS6:Hid ((#[.bool false,.bool true,.bool false,.bool true,.bool false,.bool false]:Array Value).size=6):=hid rfl
 have HA6:Hid ((#[.bool false,.bool true,.bool false,.bool true,.bool false,.bool false]:Array Value).all (·.oneCell')=true):=hid (by simp [Value.oneCell'])
 clear hx2 hxn hbn hwn hN2
 have HB3:=hid (HB2.out.trans (HBN.out.mono HB2.out.size))
 have HX3:=hid (HX2.out.later HBN.out)
 go_wp2_with ((try rw [HNN.out]);(with_reducible refine z0e #[.bool false,.bool true,.bool false,.bool true,.bool false,.bool false] HS6.out HA6.out HPZ.out ?_ ?_ ?_);rfl;rfl;rw [HWN.out])
 refine (new_ok w3 w3 512 (Below.refl _ _)).mono ?_
 rintro e w4 ⟨Bw,rfl,hkk⟩
 rw [show lim 512=512 from rfl] at hkk
 have HK4:=hid hkk
 clear hkk
 have gp:=z0c HPX.out HK4.out.below
 have HGX:=hid (HX3.out.later HK4.out.below)
 have p0:w4.cell? ⟨N2,0,none⟩=some (.bool false):=z0a gp rfl
 have p1:w4.cell? ⟨N2,1,none⟩=some (.bool true):=z0a gp rfl
 have p2:w4.cell? ⟨N2,2,none⟩=some (.bool false):=z0a gp rfl
 have p3:w4.cell? ⟨N2,3,none⟩=some (.bool true):=z0a gp rfl
 have p4:w4.cell? ⟨N2,4,none⟩=some (.bool false):=z0a gp rfl
 have p5:w4.cell? ⟨N2,5,none⟩=some (.bool false):=z0a gp rfl
 obtain⟨c0,c1,c2,c3,c4,c5,c6,c7,c8,c9⟩:=HGX.out.at
 rw [hk] at c0
 clear gp
 go_wp2_with fail
 refine (wo_num1 HK4.out 3 (by omega) (by simp)).mono ?_
 rintro e w5 ⟨rfl,hkk⟩
 have HK5:=hid hkk
 clear hkk HK4
 clear p0 p1 p2 p3 p4 p5 c0 c1 c2 c3 c4 c5 c6 c7 c8 c9 HGX
 have gp:=z0c HPX.out HK5.out.below
 have HGX:=hid (HX3.out.later HK5.out.below)
 have p0:w5.cell? ⟨N2,0,none⟩=some (.bool false):=z0a gp rfl
 have p1:w5.cell? ⟨N2,1,none⟩=some (.bool true):=z0a gp rfl
 have p2:w5.cell? ⟨N2,2,none⟩=some (.bool false):=z0a gp rfl
 have p3:w5.cell? ⟨N2,3,none⟩=some (.bool true):=z0a gp rfl
 have p4:w5.cell? ⟨N2,4,none⟩=some (.bool false):=z0a gp rfl
 have p5:w5.cell? ⟨N2,5,none⟩=some (.bool false):=z0a gp rfl
 obtain⟨c0,c1,c2,c3,c4,c5,c6,c7,c8,c9⟩:=HGX.out.at
 rw [hk] at c0
 clear gp
 go_wp2_with fail
 refine (wo_num4 HK5.out r.tx HOK.out.tx (by simp only [List.length_append,List.length_nil,z0h];omega)).mono ?_
 rintro e w6 ⟨rfl,hkk⟩
 have HK6:=hid hkk
 clear hkk HK5
 clear p0 p1 p2 p3 p4 p5 c0 c1 c2 c3 c4 c5 c6 c7 c8 c9 HGX
 have gp:=z0c HPX.out HK6.out.below
 have HGX:=hid (HX3.out.later HK6.out.below)
 have p0:w6.cell? ⟨N2,0,none⟩=some (.bool false):=z0a gp rfl
 have p1:w6.cell? ⟨N2,1,none⟩=some (.bool true):=z0a gp rfl
 have p2:w6.cell? ⟨N2,2,none⟩=some (.bool false):=z0a gp rfl
 have p3:w6.cell? ⟨N2,3,none⟩=some (.bool true):=z0a gp rfl
 have p4:w6.cell? ⟨N2,4,none⟩=some (.bool false):=z0a gp rfl
 have p5:w6.cell? ⟨N2,5,none⟩=some (.bool false):=z0a gp rfl
 obtain⟨c0,c1,c2,c3,c4,c5,c6,c7,c8,c9⟩:=HGX.out.at
 rw [hk] at c0
 clear gp
 go_wp2_with fail
 have HKb:=hid (HK6.out.later (Chg.of_below (S:=fun _=>False) ((Below.refl w6.heap.size w6).alloc (Nat.le_refl _) (.cells #[.int .u8 r.ka,.int .u8 r.kb,.int .u8 r.kc] 5))))
 refine (wo_raw HKb.out (some ⟨w6.heap.size,0,none⟩) 3 3 (keyB (r.ka,r.kb,r.kc)) (sl_three r.ka r.kb r.kc HOK.out.key.1 HOK.out.key.2.1 HOK.out.key.2.2 w6) (by simp only [List.length_append,List.length_nil,z0h];omega)).mono ?_
 rintro e w7 ⟨rfl,hkk⟩
 have HK7:=hid hkk
 clear hkk HK6 HKb
 clear p0 p1 p2 p3 p4 p5 c0 c1 c2 c3 c4 c5 c6 c7 c8 c9 HGX
 have gp:=z0c HPX.out HK7.out.below
 have HGX:=hid (HX3.out.later HK7.out.below)
 have p0:w7.cell? ⟨N2,0,none⟩=some (.bool false):=z0a gp rfl
 have p1:w7.cell? ⟨N2,1,none⟩=some (.bool true):=z0a gp rfl
 have p2:w7.cell? ⟨N2,2,none⟩=some (.bool false):=z0a gp rfl
 have p3:w7.cell? ⟨N2,3,none⟩=some (.bool true):=z0a gp rfl
 have p4:w7.cell? ⟨N2,4,none⟩=some (.bool false):=z0a gp rfl
 have p5:w7.cell? ⟨N2,5,none⟩=some (.bool false):=z0a gp rfl
 obtain⟨c0,c1,c2,c3,c4,c5,c6,c7,c8,c9⟩:=HGX.out.at
 rw [hk] at c0
 clear gp
 go_wp2_with fail
 refine (wo_int HK7.out r.d HOK.out.d (by simp only [List.length_append,List.length_nil,z0h,keyB,List.length_cons];omega)).mono ?_
 rintro e w8 ⟨rfl,hkk⟩
 have HK8:=hid hkk
 clear hkk HK7
 clear p0 p1 p2 p3 p4 p5 c0 c1 c2 c3 c4 c5 c6 c7 c8 c9 HGX
 have gp:=z0c HPX.out HK8.out.below
 have HGX:=hid (HX3.out.later HK8.out.below)
 have p0:w8.cell? ⟨N2,0,none⟩=some (.bool false):=z0a gp rfl
 have p1:w8.cell? ⟨N2,1,none⟩=some (.bool true):=z0a gp rfl
 have p2:w8.cell? ⟨N2,2,none⟩=some (.bool false):=z0a gp rfl
 have p3:w8.cell? ⟨N2,3,none⟩=some (.bool true):=z0a gp rfl
 have p4:w8.cell? ⟨N2,4,none⟩=some (.bool false):=z0a gp rfl
 have p5:w8.cell? ⟨N2,5,none⟩=some (.bool false):=z0a gp rfl
 obtain⟨c0,c1,c2,c3,c4,c5,c6,c7,c8,c9⟩:=HGX.out.at
 rw [hk] at c0
 clear gp
 go_wp2_with fail
 have hbx:((((([]:List Nat)++le ((3:Int)).toNat 1)++le r.tx.toNat 4)++keyB (r.ka,r.kb,r.kc))++le (u64 r.d) 8)=z0f (r.x L T M):=by
  unfold z0f
  rw [show ((r.x L T M)).k=3 from hk]
  simp [kS,kT,kB,kA,kO,kP,Rv.x,List.append_assoc]
 have hlx:(z0f (r.x L T M)).length≤100000:=by rw [← hbx];simp only [List.length_append,List.length_nil,List.length_cons,z0h,keyB];omega
 have HKz:Hid (WrOk w3 w8 Bw 512 (0,z0f (r.x L T M))):=hid (by rw [← hbx];exact HK8.out)
 clear hbx HK8
 generalize z0f (r.x L T M)=Z at *
 refine (z2b w3 w8 Bw 512 Z HKz.out hlx).mono ?_
 rintro e w9 ⟨pz',cz,rfl,hbz,hsz,_⟩
 have HF:Hid (z2d W Z (.returned (.tuple #[.slice pz' Z.length cz,.int .i64 0])) w9):=hid ⟨pz',cz,rfl,hsz,HB3.out.trans (hbz.mono HB3.out.size)⟩
 clear hbz hsz hlx
 generalize Z.length=nz at *
 clear p0 p1 p2 p3 p4 p5 c0 c1 c2 c3 c4 c5 c6 c7 c8 c9 HGX
 go_wp2_with fail
 go_ret2
 exact HF.out
theorem rec_write4 (r:Rv) (L:List Ln) (T:List Tk) (M:List Ln) (W:World) (hok:Rxok (r.x L T M)) (hk:r.k=4):Calls Tryd.prog 21 #[.agg (rcs r)] W (z2d W (z0f (r.x L T M))):=by
 obtain⟨W1,hW1,hb1⟩:∃ W1,W.alloc (.cells (rcs r) 44)=W1∧Below W.heap.size W W1:=⟨_,rfl,(Below.refl _ _).alloc (Nat.le_refl _) _⟩
 obtain⟨B,hB⟩:∃ B,W.heap.size=B:=⟨_,rfl⟩
 have hrb:=RB.new W r
 rw [hW1,hB] at hrb
 have HX1:=hid hrb
 have HW1:=hid hW1
 have HB1:=hid hb1
 have HRE:=hid hB
 have c0:W1.cell? ⟨B,0,none⟩=some (.int .u8 r.k):=z0a hrb rfl
 rw [hk] at c0
 clear hW1 hb1 hB hrb
 have HOK:=hid hok
 have u1:=z0i hok.sg
 have u2:=z0i hok.tx
 have u3:IntKind.u64.wrap r.st=r.st:=z0i ⟨hok.st.1,Int.le_trans hok.st.2 (by decide)⟩
 have u4:IntKind.u64.wrap r.o=r.o:=z0i ⟨hok.o.1,Int.le_trans hok.o.2 (by decide)⟩
 change IntKind.u64.wrap r.sg=r.sg at u1
 change IntKind.u64.wrap r.tx=r.tx at u2
 have hpa:=z0v 4 W1
 unfold z0u at hpa
 rw [show ptc 4=#[.bool false,.bool true,.bool false,.bool false,.bool false,.bool false] from rfl] at hpa
 clear hok
 go_enter Tryd.func21,Tryd.ntmps21
 go_upto_region 1 with (fail)
 rw [HW1.out,HRE.out]
 go_wp2_with fail
 refine hpa.mono ?_
 rintro e w2 ⟨rfl,h2⟩
 have HB2:=hid (HB1.out.trans (h2.mono HB1.out.size))
 have HX2:=hid (HX1.out.later h2)
 clear h2 hpa c0
 obtain⟨N2,hN2⟩:∃ n,w2.heap.size=n:=⟨_,rfl⟩
 obtain⟨w3,hwn,hxn,hbn⟩:∃ w3,(w2.alloc (.cells pz 56)).setRow N2 #[.bool false,.bool true,.bool false,.bool false,.bool false,.bool false]=w3∧w3.heap[N2]?=some (.cells #[.bool false,.bool true,.bool false,.bool false,.bool false,.bool false] 56 (0,0))∧Below w2.heap.size w2 w3:=⟨_,rfl,by rw [← hN2];exact setRow_heap _ _ _ _ _ _ (z0b w2 _),below_setRow ((Below.refl _ _).alloc (Nat.le_refl _) _) (by omega) _⟩
 have hx2:=z0b w2 (.cells pz 56)
 rw [hN2] at hx2
 have HPX:=hid hxn
 have HPZ:=hid hx2
 have HBN:=hid hbn
 have HWN:=hid hwn
 have HNN:=hid hN2
 have HS6:Hid ((#[.bool false,.bool true,.bool false,.bool false,.bool false,.bool false]:Array Value).size=6):=hid rfl
 have HA6:Hid ((#[.bool false,.bool true,.bool false,.bool false,.bool false,.bool false]:Array Value).all (·.oneCell')=true):=hid (by simp [Value.oneCell'])
 clear hx2 hxn hbn hwn hN2
 have HB3:=hid (HB2.out.trans (HBN.out.mono HB2.out.size))
 have HX3:=hid (HX2.out.later HBN.out)
 go_wp2_with ((try rw [HNN.out]);(with_reducible refine z0e #[.bool false,.bool true,.bool false,.bool false,.bool false,.bool false] HS6.out HA6.out HPZ.out ?_ ?_ ?_);rfl;rfl;rw [HWN.out])
 refine (new_ok w3 w3 512 (Below.refl _ _)).mono ?_
 rintro e w4 ⟨Bw,rfl,hkk⟩
 rw [show lim 512=512 from rfl] at hkk
 have HK4:=hid hkk
 clear hkk
 have gp:=z0c HPX.out HK4.out.below
 have HGX:=hid (HX3.out.later HK4.out.below)
 have p0:w4.cell? ⟨N2,0,none⟩=some (.bool false):=z0a gp rfl
 have p1:w4.cell? ⟨N2,1,none⟩=some (.bool true):=z0a gp rfl
 have p2:w4.cell? ⟨N2,2,none⟩=some (.bool false):=z0a gp rfl
 have p3:w4.cell? ⟨N2,3,none⟩=some (.bool false):=z0a gp rfl
 have p4:w4.cell? ⟨N2,4,none⟩=some (.bool false):=z0a gp rfl
 have p5:w4.cell? ⟨N2,5,none⟩=some (.bool false):=z0a gp rfl
 obtain⟨c0,c1,c2,c3,c4,c5,c6,c7,c8,c9⟩:=HGX.out.at
 rw [hk] at c0
 clear gp
 go_wp2_with fail
 refine (wo_num1 HK4.out 4 (by omega) (by simp)).mono ?_
 rintro e w5 ⟨rfl,hkk⟩
 have HK5:=hid hkk
 clear hkk HK4
 clear p0 p1 p2 p3 p4 p5 c0 c1 c2 c3 c4 c5 c6 c7 c8 c9 HGX
 have gp:=z0c HPX.out HK5.out.below
 have HGX:=hid (HX3.out.later HK5.out.below)
 have p0:w5.cell? ⟨N2,0,none⟩=some (.bool false):=z0a gp rfl
 have p1:w5.cell? ⟨N2,1,none⟩=some (.bool true):=z0a gp rfl
 have p2:w5.cell? ⟨N2,2,none⟩=some (.bool false):=z0a gp rfl
 have p3:w5.cell? ⟨N2,3,none⟩=some (.bool false):=z0a gp rfl
 have p4:w5.cell? ⟨N2,4,none⟩=some (.bool false):=z0a gp rfl
 have p5:w5.cell? ⟨N2,5,none⟩=some (.bool false):=z0a gp rfl
 obtain⟨c0,c1,c2,c3,c4,c5,c6,c7,c8,c9⟩:=HGX.out.at
 rw [hk] at c0
 clear gp
 go_wp2_with fail
 refine (wo_num4 HK5.out r.tx HOK.out.tx (by simp only [List.length_append,List.length_nil,z0h];omega)).mono ?_
 rintro e w6 ⟨rfl,hkk⟩
 have HK6:=hid hkk
 clear hkk HK5
 clear p0 p1 p2 p3 p4 p5 c0 c1 c2 c3 c4 c5 c6 c7 c8 c9 HGX
 have gp:=z0c HPX.out HK6.out.below
 have HGX:=hid (HX3.out.later HK6.out.below)
 have p0:w6.cell? ⟨N2,0,none⟩=some (.bool false):=z0a gp rfl
 have p1:w6.cell? ⟨N2,1,none⟩=some (.bool true):=z0a gp rfl
 have p2:w6.cell? ⟨N2,2,none⟩=some (.bool false):=z0a gp rfl
 have p3:w6.cell? ⟨N2,3,none⟩=some (.bool false):=z0a gp rfl
 have p4:w6.cell? ⟨N2,4,none⟩=some (.bool false):=z0a gp rfl
 have p5:w6.cell? ⟨N2,5,none⟩=some (.bool false):=z0a gp rfl
 obtain⟨c0,c1,c2,c3,c4,c5,c6,c7,c8,c9⟩:=HGX.out.at
 rw [hk] at c0
 clear gp
 go_wp2_with fail
 have hbx:((([]:List Nat)++le ((4:Int)).toNat 1)++le r.tx.toNat 4)=z0f (r.x L T M):=by
  unfold z0f
  rw [show ((r.x L T M)).k=4 from hk]
  simp [kS,kT,kB,kA,kO,kP,Rv.x,List.append_assoc]
 have hlx:(z0f (r.x L T M)).length≤100000:=by rw [← hbx];simp only [List.length_append,List.length_nil,List.length_cons,z0h,keyB];omega
 have HKz:Hid (WrOk w3 w6 Bw 512 (0,z0f (r.x L T M))):=hid (by rw [← hbx];exact HK6.out)
 clear hbx HK6
 generalize z0f (r.x L T M)=Z at *
 refine (z2b w3 w6 Bw 512 Z HKz.out hlx).mono ?_
 rintro e w7 ⟨pz',cz,rfl,hbz,hsz,_⟩
 have HF:Hid (z2d W Z (.returned (.tuple #[.slice pz' Z.length cz,.int .i64 0])) w7):=hid ⟨pz',cz,rfl,hsz,HB3.out.trans (hbz.mono HB3.out.size)⟩
 clear hbz hsz hlx
 generalize Z.length=nz at *
 clear p0 p1 p2 p3 p4 p5 c0 c1 c2 c3 c4 c5 c6 c7 c8 c9 HGX
 go_wp2_with fail
 go_ret2
 exact HF.out
theorem rec_write5 (r:Rv) (L:List Ln) (T:List Tk) (M:List Ln) (W:World) (hok:Rxok (r.x L T M)) (hk:r.k=5):Calls Tryd.prog 21 #[.agg (rcs r)] W (z2d W (z0f (r.x L T M))):=by
 obtain⟨W1,hW1,hb1⟩:∃ W1,W.alloc (.cells (rcs r) 44)=W1∧Below W.heap.size W W1:=⟨_,rfl,(Below.refl _ _).alloc (Nat.le_refl _) _⟩
 obtain⟨B,hB⟩:∃ B,W.heap.size=B:=⟨_,rfl⟩
 have hrb:=RB.new W r
 rw [hW1,hB] at hrb
 have HX1:=hid hrb
 have HW1:=hid hW1
 have HB1:=hid hb1
 have HRE:=hid hB
 have c0:W1.cell? ⟨B,0,none⟩=some (.int .u8 r.k):=z0a hrb rfl
 rw [hk] at c0
 clear hW1 hb1 hB hrb
 have HOK:=hid hok
 have u1:=z0i hok.sg
 have u2:=z0i hok.tx
 have u3:IntKind.u64.wrap r.st=r.st:=z0i ⟨hok.st.1,Int.le_trans hok.st.2 (by decide)⟩
 have u4:IntKind.u64.wrap r.o=r.o:=z0i ⟨hok.o.1,Int.le_trans hok.o.2 (by decide)⟩
 change IntKind.u64.wrap r.sg=r.sg at u1
 change IntKind.u64.wrap r.tx=r.tx at u2
 have hpa:=z0v 5 W1
 unfold z0u at hpa
 rw [show ptc 5=#[.bool false,.bool true,.bool false,.bool false,.bool false,.bool false] from rfl] at hpa
 clear hok
 go_enter Tryd.func21,Tryd.ntmps21
 go_upto_region 1 with (fail)
 rw [HW1.out,HRE.out]
 go_wp2_with fail
 refine hpa.mono ?_
 rintro e w2 ⟨rfl,h2⟩
 have HB2:=hid (HB1.out.trans (h2.mono HB1.out.size))
 have HX2:=hid (HX1.out.later h2)
 clear h2 hpa c0
 obtain⟨N2,hN2⟩:∃ n,w2.heap.size=n:=⟨_,rfl⟩
 obtain⟨w3,hwn,hxn,hbn⟩:∃ w3,(w2.alloc (.cells pz 56)).setRow N2 #[.bool false,.bool true,.bool false,.bool false,.bool false,.bool false]=w3∧w3.heap[N2]?=some (.cells #[.bool false,.bool true,.bool false,.bool false,.bool false,.bool false] 56 (0,0))∧Below w2.heap.size w2 w3:=⟨_,rfl,by rw [← hN2];exact setRow_heap _ _ _ _ _ _ (z0b w2 _),below_setRow ((Below.refl _ _).alloc (Nat.le_refl _) _) (by omega) _⟩
 have hx2:=z0b w2 (.cells pz 56)
 rw [hN2] at hx2
 have HPX:=hid hxn
 have HPZ:=hid hx2
 have HBN:=hid hbn
 have HWN:=hid hwn
 have HNN:=hid hN2
 have HS6:Hid ((#[.bool false,.bool true,.bool false,.bool false,.bool false,.bool false]:Array Value).size=6):=hid rfl
 have HA6:Hid ((#[.bool false,.bool true,.bool false,.bool false,.bool false,.bool false]:Array Value).all (·.oneCell')=true):=hid (by simp [Value.oneCell'])
 clear hx2 hxn hbn hwn hN2
 have HB3:=hid (HB2.out.trans (HBN.out.mono HB2.out.size))
 have HX3:=hid (HX2.out.later HBN.out)
 go_wp2_with ((try rw [HNN.out]);(with_reducible refine z0e #[.bool false,.bool true,.bool false,.bool false,.bool false,.bool false] HS6.out HA6.out HPZ.out ?_ ?_ ?_);rfl;rfl;rw [HWN.out])
 refine (new_ok w3 w3 512 (Below.refl _ _)).mono ?_
 rintro e w4 ⟨Bw,rfl,hkk⟩
 rw [show lim 512=512 from rfl] at hkk
 have HK4:=hid hkk
 clear hkk
 have gp:=z0c HPX.out HK4.out.below
 have HGX:=hid (HX3.out.later HK4.out.below)
 have p0:w4.cell? ⟨N2,0,none⟩=some (.bool false):=z0a gp rfl
 have p1:w4.cell? ⟨N2,1,none⟩=some (.bool true):=z0a gp rfl
 have p2:w4.cell? ⟨N2,2,none⟩=some (.bool false):=z0a gp rfl
 have p3:w4.cell? ⟨N2,3,none⟩=some (.bool false):=z0a gp rfl
 have p4:w4.cell? ⟨N2,4,none⟩=some (.bool false):=z0a gp rfl
 have p5:w4.cell? ⟨N2,5,none⟩=some (.bool false):=z0a gp rfl
 obtain⟨c0,c1,c2,c3,c4,c5,c6,c7,c8,c9⟩:=HGX.out.at
 rw [hk] at c0
 clear gp
 go_wp2_with fail
 refine (wo_num1 HK4.out 5 (by omega) (by simp)).mono ?_
 rintro e w5 ⟨rfl,hkk⟩
 have HK5:=hid hkk
 clear hkk HK4
 clear p0 p1 p2 p3 p4 p5 c0 c1 c2 c3 c4 c5 c6 c7 c8 c9 HGX
 have gp:=z0c HPX.out HK5.out.below
 have HGX:=hid (HX3.out.later HK5.out.below)
 have p0:w5.cell? ⟨N2,0,none⟩=some (.bool false):=z0a gp rfl
 have p1:w5.cell? ⟨N2,1,none⟩=some (.bool true):=z0a gp rfl
 have p2:w5.cell? ⟨N2,2,none⟩=some (.bool false):=z0a gp rfl
 have p3:w5.cell? ⟨N2,3,none⟩=some (.bool false):=z0a gp rfl
 have p4:w5.cell? ⟨N2,4,none⟩=some (.bool false):=z0a gp rfl
 have p5:w5.cell? ⟨N2,5,none⟩=some (.bool false):=z0a gp rfl
 obtain⟨c0,c1,c2,c3,c4,c5,c6,c7,c8,c9⟩:=HGX.out.at
 rw [hk] at c0
 clear gp
 go_wp2_with fail
 refine (wo_num4 HK5.out r.tx HOK.out.tx (by simp only [List.length_append,List.length_nil,z0h];omega)).mono ?_
 rintro e w6 ⟨rfl,hkk⟩
 have HK6:=hid hkk
 clear hkk HK5
 clear p0 p1 p2 p3 p4 p5 c0 c1 c2 c3 c4 c5 c6 c7 c8 c9 HGX
 have gp:=z0c HPX.out HK6.out.below
 have HGX:=hid (HX3.out.later HK6.out.below)
 have p0:w6.cell? ⟨N2,0,none⟩=some (.bool false):=z0a gp rfl
 have p1:w6.cell? ⟨N2,1,none⟩=some (.bool true):=z0a gp rfl
 have p2:w6.cell? ⟨N2,2,none⟩=some (.bool false):=z0a gp rfl
 have p3:w6.cell? ⟨N2,3,none⟩=some (.bool false):=z0a gp rfl
 have p4:w6.cell? ⟨N2,4,none⟩=some (.bool false):=z0a gp rfl
 have p5:w6.cell? ⟨N2,5,none⟩=some (.bool false):=z0a gp rfl
 obtain⟨c0,c1,c2,c3,c4,c5,c6,c7,c8,c9⟩:=HGX.out.at
 rw [hk] at c0
 clear gp
 go_wp2_with fail
 have hbx:((([]:List Nat)++le ((5:Int)).toNat 1)++le r.tx.toNat 4)=z0f (r.x L T M):=by
  unfold z0f
  rw [show ((r.x L T M)).k=5 from hk]
  simp [kS,kT,kB,kA,kO,kP,Rv.x,List.append_assoc]
 have hlx:(z0f (r.x L T M)).length≤100000:=by rw [← hbx];simp only [List.length_append,List.length_nil,List.length_cons,z0h,keyB];omega
 have HKz:Hid (WrOk w3 w6 Bw 512 (0,z0f (r.x L T M))):=hid (by rw [← hbx];exact HK6.out)
 clear hbx HK6
 generalize z0f (r.x L T M)=Z at *
 refine (z2b w3 w6 Bw 512 Z HKz.out hlx).mono ?_
 rintro e w7 ⟨pz',cz,rfl,hbz,hsz,_⟩
 have HF:Hid (z2d W Z (.returned (.tuple #[.slice pz' Z.length cz,.int .i64 0])) w7):=hid ⟨pz',cz,rfl,hsz,HB3.out.trans (hbz.mono HB3.out.size)⟩
 clear hbz hsz hlx
 generalize Z.length=nz at *
 clear p0 p1 p2 p3 p4 p5 c0 c1 c2 c3 c4 c5 c6 c7 c8 c9 HGX
 go_wp2_with fail
 go_ret2
 exact HF.out
theorem rec_write6 (r:Rv) (L:List Ln) (T:List Tk) (M:List Ln) (W:World) (hok:Rxok (r.x L T M)) (hk:r.k=6):Calls Tryd.prog 21 #[.agg (rcs r)] W (z2d W (z0f (r.x L T M))):=by
 obtain⟨W1,hW1,hb1⟩:∃ W1,W.alloc (.cells (rcs r) 44)=W1∧Below W.heap.size W W1:=⟨_,rfl,(Below.refl _ _).alloc (Nat.le_refl _) _⟩
 obtain⟨B,hB⟩:∃ B,W.heap.size=B:=⟨_,rfl⟩
 have hrb:=RB.new W r
 rw [hW1,hB] at hrb
 have HX1:=hid hrb
 have HW1:=hid hW1
 have HB1:=hid hb1
 have HRE:=hid hB
 have c0:W1.cell? ⟨B,0,none⟩=some (.int .u8 r.k):=z0a hrb rfl
 rw [hk] at c0
 clear hW1 hb1 hB hrb
 have HOK:=hid hok
 have u1:=z0i hok.sg
 have u2:=z0i hok.tx
 have u3:IntKind.u64.wrap r.st=r.st:=z0i ⟨hok.st.1,Int.le_trans hok.st.2 (by decide)⟩
 have u4:IntKind.u64.wrap r.o=r.o:=z0i ⟨hok.o.1,Int.le_trans hok.o.2 (by decide)⟩
 change IntKind.u64.wrap r.sg=r.sg at u1
 change IntKind.u64.wrap r.tx=r.tx at u2
 have hpa:=z0v 6 W1
 unfold z0u at hpa
 rw [show ptc 6=#[.bool false,.bool true,.bool false,.bool true,.bool false,.bool false] from rfl] at hpa
 clear hok
 go_enter Tryd.func21,Tryd.ntmps21
 go_upto_region 1 with (fail)
 rw [HW1.out,HRE.out]
 go_wp2_with fail
 refine hpa.mono ?_
 rintro e w2 ⟨rfl,h2⟩
 have HB2:=hid (HB1.out.trans (h2.mono HB1.out.size))
 have HX2:=hid (HX1.out.later h2)
 clear h2 hpa c0
 obtain⟨N2,hN2⟩:∃ n,w2.heap.size=n:=⟨_,rfl⟩
 obtain⟨w3,hwn,hxn,hbn⟩:∃ w3,(w2.alloc (.cells pz 56)).setRow N2 #[.bool false,.bool true,.bool false,.bool true,.bool false,.bool false]=w3∧w3.heap[N2]?=some (.cells #[.bool false,.bool true,.bool false,.bool true,.bool false,.bool false] 56 (0,0))∧Below w2.heap.size w2 w3:=⟨_,rfl,by rw [← hN2];exact setRow_heap _ _ _ _ _ _ (z0b w2 _),below_setRow ((Below.refl _ _).alloc (Nat.le_refl _) _) (by omega) _⟩
 have hx2:=z0b w2 (.cells pz 56)
 rw [hN2] at hx2
 have HPX:=hid hxn
 have HPZ:=hid hx2
 have HBN:=hid hbn
 have HWN:=hid hwn
 have HNN:=hid hN2
 have HS6:Hid ((#[.bool false,.bool true,.bool false,.bool true,.bool false,.bool false]:Array Value).size=6):=hid rfl
 have HA6:Hid ((#[.bool false,.bool true,.bool false,.bool true,.bool false,.bool false]:Array Value).all (·.oneCell')=true):=hid (by simp [Value.oneCell'])
 clear hx2 hxn hbn hwn hN2
 have HB3:=hid (HB2.out.trans (HBN.out.mono HB2.out.size))
 have HX3:=hid (HX2.out.later HBN.out)
 go_wp2_with ((try rw [HNN.out]);(with_reducible refine z0e #[.bool false,.bool true,.bool false,.bool true,.bool false,.bool false] HS6.out HA6.out HPZ.out ?_ ?_ ?_);rfl;rfl;rw [HWN.out])
 refine (new_ok w3 w3 512 (Below.refl _ _)).mono ?_
 rintro e w4 ⟨Bw,rfl,hkk⟩
 rw [show lim 512=512 from rfl] at hkk
 have HK4:=hid hkk
 clear hkk
 have gp:=z0c HPX.out HK4.out.below
 have HGX:=hid (HX3.out.later HK4.out.below)
 have p0:w4.cell? ⟨N2,0,none⟩=some (.bool false):=z0a gp rfl
 have p1:w4.cell? ⟨N2,1,none⟩=some (.bool true):=z0a gp rfl
 have p2:w4.cell? ⟨N2,2,none⟩=some (.bool false):=z0a gp rfl
 have p3:w4.cell? ⟨N2,3,none⟩=some (.bool true):=z0a gp rfl
 have p4:w4.cell? ⟨N2,4,none⟩=some (.bool false):=z0a gp rfl
 have p5:w4.cell? ⟨N2,5,none⟩=some (.bool false):=z0a gp rfl
 obtain⟨c0,c1,c2,c3,c4,c5,c6,c7,c8,c9⟩:=HGX.out.at
 rw [hk] at c0
 clear gp
 go_wp2_with fail
 refine (wo_num1 HK4.out 6 (by omega) (by simp)).mono ?_
 rintro e w5 ⟨rfl,hkk⟩
 have HK5:=hid hkk
 clear hkk HK4
 clear p0 p1 p2 p3 p4 p5 c0 c1 c2 c3 c4 c5 c6 c7 c8 c9 HGX
 have gp:=z0c HPX.out HK5.out.below
 have HGX:=hid (HX3.out.later HK5.out.below)
 have p0:w5.cell? ⟨N2,0,none⟩=some (.bool false):=z0a gp rfl
 have p1:w5.cell? ⟨N2,1,none⟩=some (.bool true):=z0a gp rfl
 have p2:w5.cell? ⟨N2,2,none⟩=some (.bool false):=z0a gp rfl
 have p3:w5.cell? ⟨N2,3,none⟩=some (.bool true):=z0a gp rfl
 have p4:w5.cell? ⟨N2,4,none⟩=some (.bool false):=z0a gp rfl
 have p5:w5.cell? ⟨N2,5,none⟩=some (.bool false):=z0a gp rfl
 obtain⟨c0,c1,c2,c3,c4,c5,c6,c7,c8,c9⟩:=HGX.out.at
 rw [hk] at c0
 clear gp
 go_wp2_with fail
 refine (wo_num4 HK5.out r.tx HOK.out.tx (by simp only [List.length_append,List.length_nil,z0h];omega)).mono ?_
 rintro e w6 ⟨rfl,hkk⟩
 have HK6:=hid hkk
 clear hkk HK5
 clear p0 p1 p2 p3 p4 p5 c0 c1 c2 c3 c4 c5 c6 c7 c8 c9 HGX
 have gp:=z0c HPX.out HK6.out.below
 have HGX:=hid (HX3.out.later HK6.out.below)
 have p0:w6.cell? ⟨N2,0,none⟩=some (.bool false):=z0a gp rfl
 have p1:w6.cell? ⟨N2,1,none⟩=some (.bool true):=z0a gp rfl
 have p2:w6.cell? ⟨N2,2,none⟩=some (.bool false):=z0a gp rfl
 have p3:w6.cell? ⟨N2,3,none⟩=some (.bool true):=z0a gp rfl
 have p4:w6.cell? ⟨N2,4,none⟩=some (.bool false):=z0a gp rfl
 have p5:w6.cell? ⟨N2,5,none⟩=some (.bool false):=z0a gp rfl
 obtain⟨c0,c1,c2,c3,c4,c5,c6,c7,c8,c9⟩:=HGX.out.at
 rw [hk] at c0
 clear gp
 go_wp2_with fail
 have HKb:=hid (HK6.out.later (Chg.of_below (S:=fun _=>False) ((Below.refl w6.heap.size w6).alloc (Nat.le_refl _) (.cells #[.int .u8 r.ka,.int .u8 r.kb,.int .u8 r.kc] 5))))
 refine (wo_raw HKb.out (some ⟨w6.heap.size,0,none⟩) 3 3 (keyB (r.ka,r.kb,r.kc)) (sl_three r.ka r.kb r.kc HOK.out.key.1 HOK.out.key.2.1 HOK.out.key.2.2 w6) (by simp only [List.length_append,List.length_nil,z0h];omega)).mono ?_
 rintro e w7 ⟨rfl,hkk⟩
 have HK7:=hid hkk
 clear hkk HK6 HKb
 clear p0 p1 p2 p3 p4 p5 c0 c1 c2 c3 c4 c5 c6 c7 c8 c9 HGX
 have gp:=z0c HPX.out HK7.out.below
 have HGX:=hid (HX3.out.later HK7.out.below)
 have p0:w7.cell? ⟨N2,0,none⟩=some (.bool false):=z0a gp rfl
 have p1:w7.cell? ⟨N2,1,none⟩=some (.bool true):=z0a gp rfl
 have p2:w7.cell? ⟨N2,2,none⟩=some (.bool false):=z0a gp rfl
 have p3:w7.cell? ⟨N2,3,none⟩=some (.bool true):=z0a gp rfl
 have p4:w7.cell? ⟨N2,4,none⟩=some (.bool false):=z0a gp rfl
 have p5:w7.cell? ⟨N2,5,none⟩=some (.bool false):=z0a gp rfl
 obtain⟨c0,c1,c2,c3,c4,c5,c6,c7,c8,c9⟩:=HGX.out.at
 rw [hk] at c0
 clear gp
 go_wp2_with fail
 refine (wo_int HK7.out r.d HOK.out.d (by simp only [List.length_append,List.length_nil,z0h,keyB,List.length_cons];omega)).mono ?_
 rintro e w8 ⟨rfl,hkk⟩
 have HK8:=hid hkk
 clear hkk HK7
 clear p0 p1 p2 p3 p4 p5 c0 c1 c2 c3 c4 c5 c6 c7 c8 c9 HGX
 have gp:=z0c HPX.out HK8.out.below
 have HGX:=hid (HX3.out.later HK8.out.below)
 have p0:w8.cell? ⟨N2,0,none⟩=some (.bool false):=z0a gp rfl
 have p1:w8.cell? ⟨N2,1,none⟩=some (.bool true):=z0a gp rfl
 have p2:w8.cell? ⟨N2,2,none⟩=some (.bool false):=z0a gp rfl
 have p3:w8.cell? ⟨N2,3,none⟩=some (.bool true):=z0a gp rfl
 have p4:w8.cell? ⟨N2,4,none⟩=some (.bool false):=z0a gp rfl
 have p5:w8.cell? ⟨N2,5,none⟩=some (.bool false):=z0a gp rfl
 obtain⟨c0,c1,c2,c3,c4,c5,c6,c7,c8,c9⟩:=HGX.out.at
 rw [hk] at c0
 clear gp
 go_wp2_with fail
 have hbx:((((([]:List Nat)++le ((6:Int)).toNat 1)++le r.tx.toNat 4)++keyB (r.ka,r.kb,r.kc))++le (u64 r.d) 8)=z0f (r.x L T M):=by
  unfold z0f
  rw [show ((r.x L T M)).k=6 from hk]
  simp [kS,kT,kB,kA,kO,kP,Rv.x,List.append_assoc]
 have hlx:(z0f (r.x L T M)).length≤100000:=by rw [← hbx];simp only [List.length_append,List.length_nil,List.length_cons,z0h,keyB];omega
 have HKz:Hid (WrOk w3 w8 Bw 512 (0,z0f (r.x L T M))):=hid (by rw [← hbx];exact HK8.out)
 clear hbx HK8
 generalize z0f (r.x L T M)=Z at *
 refine (z2b w3 w8 Bw 512 Z HKz.out hlx).mono ?_
 rintro e w9 ⟨pz',cz,rfl,hbz,hsz,_⟩
 have HF:Hid (z2d W Z (.returned (.tuple #[.slice pz' Z.length cz,.int .i64 0])) w9):=hid ⟨pz',cz,rfl,hsz,HB3.out.trans (hbz.mono HB3.out.size)⟩
 clear hbz hsz hlx
 generalize Z.length=nz at *
 clear p0 p1 p2 p3 p4 p5 c0 c1 c2 c3 c4 c5 c6 c7 c8 c9 HGX
 go_wp2_with fail
 go_ret2
 exact HF.out
theorem rec_write7 (r:Rv) (L:List Ln) (T:List Tk) (M:List Ln) (W:World) (hok:Rxok (r.x L T M)) (hk:r.k=7):Calls Tryd.prog 21 #[.agg (rcs r)] W (z2d W (z0f (r.x L T M))):=by
 obtain⟨W1,hW1,hb1⟩:∃ W1,W.alloc (.cells (rcs r) 44)=W1∧Below W.heap.size W W1:=⟨_,rfl,(Below.refl _ _).alloc (Nat.le_refl _) _⟩
 obtain⟨B,hB⟩:∃ B,W.heap.size=B:=⟨_,rfl⟩
 have hrb:=RB.new W r
 rw [hW1,hB] at hrb
 have HX1:=hid hrb
 have HW1:=hid hW1
 have HB1:=hid hb1
 have HRE:=hid hB
 have c0:W1.cell? ⟨B,0,none⟩=some (.int .u8 r.k):=z0a hrb rfl
 rw [hk] at c0
 clear hW1 hb1 hB hrb
 have HOK:=hid hok
 have u1:=z0i hok.sg
 have u2:=z0i hok.tx
 have u3:IntKind.u64.wrap r.st=r.st:=z0i ⟨hok.st.1,Int.le_trans hok.st.2 (by decide)⟩
 have u4:IntKind.u64.wrap r.o=r.o:=z0i ⟨hok.o.1,Int.le_trans hok.o.2 (by decide)⟩
 change IntKind.u64.wrap r.sg=r.sg at u1
 change IntKind.u64.wrap r.tx=r.tx at u2
 have hpa:=z0v 7 W1
 unfold z0u at hpa
 rw [show ptc 7=#[.bool false,.bool true,.bool false,.bool false,.bool false,.bool false] from rfl] at hpa
 clear hok
 go_enter Tryd.func21,Tryd.ntmps21
 go_upto_region 1 with (fail)
 rw [HW1.out,HRE.out]
 go_wp2_with fail
 refine hpa.mono ?_
 rintro e w2 ⟨rfl,h2⟩
 have HB2:=hid (HB1.out.trans (h2.mono HB1.out.size))
 have HX2:=hid (HX1.out.later h2)
 clear h2 hpa c0
 obtain⟨N2,hN2⟩:∃ n,w2.heap.size=n:=⟨_,rfl⟩
 obtain⟨w3,hwn,hxn,hbn⟩:∃ w3,(w2.alloc (.cells pz 56)).setRow N2 #[.bool false,.bool true,.bool false,.bool false,.bool false,.bool false]=w3∧w3.heap[N2]?=some (.cells #[.bool false,.bool true,.bool false,.bool false,.bool false,.bool false] 56 (0,0))∧Below w2.heap.size w2 w3:=⟨_,rfl,by rw [← hN2];exact setRow_heap _ _ _ _ _ _ (z0b w2 _),below_setRow ((Below.refl _ _).alloc (Nat.le_refl _) _) (by omega) _⟩
 have hx2:=z0b w2 (.cells pz 56)
 rw [hN2] at hx2
 have HPX:=hid hxn
 have HPZ:=hid hx2
 have HBN:=hid hbn
 have HWN:=hid hwn
 have HNN:=hid hN2
 have HS6:Hid ((#[.bool false,.bool true,.bool false,.bool false,.bool false,.bool false]:Array Value).size=6):=hid rfl
 have HA6:Hid ((#[.bool false,.bool true,.bool false,.bool false,.bool false,.bool false]:Array Value).all (·.oneCell')=true):=hid (by simp [Value.oneCell'])
 clear hx2 hxn hbn hwn hN2
 have HB3:=hid (HB2.out.trans (HBN.out.mono HB2.out.size))
 have HX3:=hid (HX2.out.later HBN.out)
 go_wp2_with ((try rw [HNN.out]);(with_reducible refine z0e #[.bool false,.bool true,.bool false,.bool false,.bool false,.bool false] HS6.out HA6.out HPZ.out ?_ ?_ ?_);rfl;rfl;rw [HWN.out])
 refine (new_ok w3 w3 512 (Below.refl _ _)).mono ?_
 rintro e w4 ⟨Bw,rfl,hkk⟩
 rw [show lim 512=512 from rfl] at hkk
 have HK4:=hid hkk
 clear hkk
 have gp:=z0c HPX.out HK4.out.below
 have HGX:=hid (HX3.out.later HK4.out.below)
 have p0:w4.cell? ⟨N2,0,none⟩=some (.bool false):=z0a gp rfl
 have p1:w4.cell? ⟨N2,1,none⟩=some (.bool true):=z0a gp rfl
 have p2:w4.cell? ⟨N2,2,none⟩=some (.bool false):=z0a gp rfl
 have p3:w4.cell? ⟨N2,3,none⟩=some (.bool false):=z0a gp rfl
 have p4:w4.cell? ⟨N2,4,none⟩=some (.bool false):=z0a gp rfl
 have p5:w4.cell? ⟨N2,5,none⟩=some (.bool false):=z0a gp rfl
 obtain⟨c0,c1,c2,c3,c4,c5,c6,c7,c8,c9⟩:=HGX.out.at
 rw [hk] at c0
 clear gp
 go_wp2_with fail
 refine (wo_num1 HK4.out 7 (by omega) (by simp)).mono ?_
 rintro e w5 ⟨rfl,hkk⟩
 have HK5:=hid hkk
 clear hkk HK4
 clear p0 p1 p2 p3 p4 p5 c0 c1 c2 c3 c4 c5 c6 c7 c8 c9 HGX
 have gp:=z0c HPX.out HK5.out.below
 have HGX:=hid (HX3.out.later HK5.out.below)
 have p0:w5.cell? ⟨N2,0,none⟩=some (.bool false):=z0a gp rfl
 have p1:w5.cell? ⟨N2,1,none⟩=some (.bool true):=z0a gp rfl
 have p2:w5.cell? ⟨N2,2,none⟩=some (.bool false):=z0a gp rfl
 have p3:w5.cell? ⟨N2,3,none⟩=some (.bool false):=z0a gp rfl
 have p4:w5.cell? ⟨N2,4,none⟩=some (.bool false):=z0a gp rfl
 have p5:w5.cell? ⟨N2,5,none⟩=some (.bool false):=z0a gp rfl
 obtain⟨c0,c1,c2,c3,c4,c5,c6,c7,c8,c9⟩:=HGX.out.at
 rw [hk] at c0
 clear gp
 go_wp2_with fail
 refine (wo_num4 HK5.out r.tx HOK.out.tx (by simp only [List.length_append,List.length_nil,z0h];omega)).mono ?_
 rintro e w6 ⟨rfl,hkk⟩
 have HK6:=hid hkk
 clear hkk HK5
 clear p0 p1 p2 p3 p4 p5 c0 c1 c2 c3 c4 c5 c6 c7 c8 c9 HGX
 have gp:=z0c HPX.out HK6.out.below
 have HGX:=hid (HX3.out.later HK6.out.below)
 have p0:w6.cell? ⟨N2,0,none⟩=some (.bool false):=z0a gp rfl
 have p1:w6.cell? ⟨N2,1,none⟩=some (.bool true):=z0a gp rfl
 have p2:w6.cell? ⟨N2,2,none⟩=some (.bool false):=z0a gp rfl
 have p3:w6.cell? ⟨N2,3,none⟩=some (.bool false):=z0a gp rfl
 have p4:w6.cell? ⟨N2,4,none⟩=some (.bool false):=z0a gp rfl
 have p5:w6.cell? ⟨N2,5,none⟩=some (.bool false):=z0a gp rfl
 obtain⟨c0,c1,c2,c3,c4,c5,c6,c7,c8,c9⟩:=HGX.out.at
 rw [hk] at c0
 clear gp
 go_wp2_with fail
 have hbx:((([]:List Nat)++le ((7:Int)).toNat 1)++le r.tx.toNat 4)=z0f (r.x L T M):=by
  unfold z0f
  rw [show ((r.x L T M)).k=7 from hk]
  simp [kS,kT,kB,kA,kO,kP,Rv.x,List.append_assoc]
 have hlx:(z0f (r.x L T M)).length≤100000:=by rw [← hbx];simp only [List.length_append,List.length_nil,List.length_cons,z0h,keyB];omega
 have HKz:Hid (WrOk w3 w6 Bw 512 (0,z0f (r.x L T M))):=hid (by rw [← hbx];exact HK6.out)
 clear hbx HK6
 generalize z0f (r.x L T M)=Z at *
 refine (z2b w3 w6 Bw 512 Z HKz.out hlx).mono ?_
 rintro e w7 ⟨pz',cz,rfl,hbz,hsz,_⟩
 have HF:Hid (z2d W Z (.returned (.tuple #[.slice pz' Z.length cz,.int .i64 0])) w7):=hid ⟨pz',cz,rfl,hsz,HB3.out.trans (hbz.mono HB3.out.size)⟩
 clear hbz hsz hlx
 generalize Z.length=nz at *
 clear p0 p1 p2 p3 p4 p5 c0 c1 c2 c3 c4 c5 c6 c7 c8 c9 HGX
 go_wp2_with fail
 go_ret2
 exact HF.out
theorem rec_write8 (r:Rv) (L:List Ln) (T:List Tk) (M:List Ln) (W:World) (hok:Rxok (r.x L T M)) (hk:r.k=8):Calls Tryd.prog 21 #[.agg (rcs r)] W (z2d W (z0f (r.x L T M))):=by
 obtain⟨W1,hW1,hb1⟩:∃ W1,W.alloc (.cells (rcs r) 44)=W1∧Below W.heap.size W W1:=⟨_,rfl,(Below.refl _ _).alloc (Nat.le_refl _) _⟩
 obtain⟨B,hB⟩:∃ B,W.heap.size=B:=⟨_,rfl⟩
 have hrb:=RB.new W r
 rw [hW1,hB] at hrb
 have HX1:=hid hrb
 have HW1:=hid hW1
 have HB1:=hid hb1
 have HRE:=hid hB
 have c0:W1.cell? ⟨B,0,none⟩=some (.int .u8 r.k):=z0a hrb rfl
 rw [hk] at c0
 clear hW1 hb1 hB hrb
 have HOK:=hid hok
 have u1:=z0i hok.sg
 have u2:=z0i hok.tx
 have u3:IntKind.u64.wrap r.st=r.st:=z0i ⟨hok.st.1,Int.le_trans hok.st.2 (by decide)⟩
 have u4:IntKind.u64.wrap r.o=r.o:=z0i ⟨hok.o.1,Int.le_trans hok.o.2 (by decide)⟩
 change IntKind.u64.wrap r.sg=r.sg at u1
 change IntKind.u64.wrap r.tx=r.tx at u2
 have hpa:=z0v 8 W1
 unfold z0u at hpa
 rw [show ptc 8=#[.bool true,.bool false,.bool false,.bool false,.bool false,.bool false] from rfl] at hpa
 clear hok
 go_enter Tryd.func21,Tryd.ntmps21
 go_upto_region 1 with (fail)
 rw [HW1.out,HRE.out]
 go_wp2_with fail
 refine hpa.mono ?_
 rintro e w2 ⟨rfl,h2⟩
 have HB2:=hid (HB1.out.trans (h2.mono HB1.out.size))
 have HX2:=hid (HX1.out.later h2)
 clear h2 hpa c0
 obtain⟨N2,hN2⟩:∃ n,w2.heap.size=n:=⟨_,rfl⟩
 obtain⟨w3,hwn,hxn,hbn⟩:∃ w3,(w2.alloc (.cells pz 56)).setRow N2 #[.bool true,.bool false,.bool false,.bool false,.bool false,.bool false]=w3∧w3.heap[N2]?=some (.cells #[.bool true,.bool false,.bool false,.bool false,.bool false,.bool false] 56 (0,0))∧Below w2.heap.size w2 w3:=⟨_,rfl,by rw [← hN2];exact setRow_heap _ _ _ _ _ _ (z0b w2 _),below_setRow ((Below.refl _ _).alloc (Nat.le_refl _) _) (by omega) _⟩
 have hx2:=z0b w2 (.cells pz 56)
 rw [hN2] at hx2
 have HPX:=hid hxn
 have HPZ:=hid hx2
 have HBN:=hid hbn
 have HWN:=hid hwn
 have HNN:=hid hN2
 have HS6:Hid ((#[.bool true,.bool false,.bool false,.bool false,.bool false,.bool false]:Array Value).size=6):=hid rfl
 have HA6:Hid ((#[.bool true,.bool false,.bool false,.bool false,.bool false,.bool false]:Array Value).all (·.oneCell')=true):=hid (by simp [Value.oneCell'])
 clear hx2 hxn hbn hwn hN2
 have HB3:=hid (HB2.out.trans (HBN.out.mono HB2.out.size))
 have HX3:=hid (HX2.out.later HBN.out)
 go_wp2_with ((try rw [HNN.out]);(with_reducible refine z0e #[.bool true,.bool false,.bool false,.bool false,.bool false,.bool false] HS6.out HA6.out HPZ.out ?_ ?_ ?_);rfl;rfl;rw [HWN.out])
 refine (new_ok w3 w3 512 (Below.refl _ _)).mono ?_
 rintro e w4 ⟨Bw,rfl,hkk⟩
 rw [show lim 512=512 from rfl] at hkk
 have HK4:=hid hkk
 clear hkk
 have gp:=z0c HPX.out HK4.out.below
 have HGX:=hid (HX3.out.later HK4.out.below)
 have p0:w4.cell? ⟨N2,0,none⟩=some (.bool true):=z0a gp rfl
 have p1:w4.cell? ⟨N2,1,none⟩=some (.bool false):=z0a gp rfl
 have p2:w4.cell? ⟨N2,2,none⟩=some (.bool false):=z0a gp rfl
 have p3:w4.cell? ⟨N2,3,none⟩=some (.bool false):=z0a gp rfl
 have p4:w4.cell? ⟨N2,4,none⟩=some (.bool false):=z0a gp rfl
 have p5:w4.cell? ⟨N2,5,none⟩=some (.bool false):=z0a gp rfl
 obtain⟨c0,c1,c2,c3,c4,c5,c6,c7,c8,c9⟩:=HGX.out.at
 rw [hk] at c0
 clear gp
 go_wp2_with fail
 refine (wo_num1 HK4.out 8 (by omega) (by simp)).mono ?_
 rintro e w5 ⟨rfl,hkk⟩
 have HK5:=hid hkk
 clear hkk HK4
 clear p0 p1 p2 p3 p4 p5 c0 c1 c2 c3 c4 c5 c6 c7 c8 c9 HGX
 have gp:=z0c HPX.out HK5.out.below
 have HGX:=hid (HX3.out.later HK5.out.below)
 have p0:w5.cell? ⟨N2,0,none⟩=some (.bool true):=z0a gp rfl
 have p1:w5.cell? ⟨N2,1,none⟩=some (.bool false):=z0a gp rfl
 have p2:w5.cell? ⟨N2,2,none⟩=some (.bool false):=z0a gp rfl
 have p3:w5.cell? ⟨N2,3,none⟩=some (.bool false):=z0a gp rfl
 have p4:w5.cell? ⟨N2,4,none⟩=some (.bool false):=z0a gp rfl
 have p5:w5.cell? ⟨N2,5,none⟩=some (.bool false):=z0a gp rfl
 obtain⟨c0,c1,c2,c3,c4,c5,c6,c7,c8,c9⟩:=HGX.out.at
 rw [hk] at c0
 clear gp
 go_wp2_with fail
 refine (wo_num4 HK5.out r.sg HOK.out.sg (by simp only [List.length_append,List.length_nil,z0h];omega)).mono ?_
 rintro e w6 ⟨rfl,hkk⟩
 have HK6:=hid hkk
 clear hkk HK5
 clear p0 p1 p2 p3 p4 p5 c0 c1 c2 c3 c4 c5 c6 c7 c8 c9 HGX
 have gp:=z0c HPX.out HK6.out.below
 have HGX:=hid (HX3.out.later HK6.out.below)
 have p0:w6.cell? ⟨N2,0,none⟩=some (.bool true):=z0a gp rfl
 have p1:w6.cell? ⟨N2,1,none⟩=some (.bool false):=z0a gp rfl
 have p2:w6.cell? ⟨N2,2,none⟩=some (.bool false):=z0a gp rfl
 have p3:w6.cell? ⟨N2,3,none⟩=some (.bool false):=z0a gp rfl
 have p4:w6.cell? ⟨N2,4,none⟩=some (.bool false):=z0a gp rfl
 have p5:w6.cell? ⟨N2,5,none⟩=some (.bool false):=z0a gp rfl
 obtain⟨c0,c1,c2,c3,c4,c5,c6,c7,c8,c9⟩:=HGX.out.at
 rw [hk] at c0
 clear gp
 go_wp2_with fail
 have hbx:((([]:List Nat)++le ((8:Int)).toNat 1)++le r.sg.toNat 4)=z0f (r.x L T M):=by
  unfold z0f
  rw [show ((r.x L T M)).k=8 from hk]
  simp [kS,kT,kB,kA,kO,kP,Rv.x,List.append_assoc]
 have hlx:(z0f (r.x L T M)).length≤100000:=by rw [← hbx];simp only [List.length_append,List.length_nil,List.length_cons,z0h,keyB];omega
 have HKz:Hid (WrOk w3 w6 Bw 512 (0,z0f (r.x L T M))):=hid (by rw [← hbx];exact HK6.out)
 clear hbx HK6
 generalize z0f (r.x L T M)=Z at *
 refine (z2b w3 w6 Bw 512 Z HKz.out hlx).mono ?_
 rintro e w7 ⟨pz',cz,rfl,hbz,hsz,_⟩
 have HF:Hid (z2d W Z (.returned (.tuple #[.slice pz' Z.length cz,.int .i64 0])) w7):=hid ⟨pz',cz,rfl,hsz,HB3.out.trans (hbz.mono HB3.out.size)⟩
 clear hbz hsz hlx
 generalize Z.length=nz at *
 clear p0 p1 p2 p3 p4 p5 c0 c1 c2 c3 c4 c5 c6 c7 c8 c9 HGX
 go_wp2_with fail
 go_ret2
 exact HF.out
theorem rec_write9 (r:Rv) (L:List Ln) (T:List Tk) (M:List Ln) (W:World) (hok:Rxok (r.x L T M)) (hk:r.k=9):Calls Tryd.prog 21 #[.agg (rcs r)] W (z2d W (z0f (r.x L T M))):=by
 obtain⟨W1,hW1,hb1⟩:∃ W1,W.alloc (.cells (rcs r) 44)=W1∧Below W.heap.size W W1:=⟨_,rfl,(Below.refl _ _).alloc (Nat.le_refl _) _⟩
 obtain⟨B,hB⟩:∃ B,W.heap.size=B:=⟨_,rfl⟩
 have hrb:=RB.new W r
 rw [hW1,hB] at hrb
 have HX1:=hid hrb
 have HW1:=hid hW1
 have HB1:=hid hb1
 have HRE:=hid hB
 have c0:W1.cell? ⟨B,0,none⟩=some (.int .u8 r.k):=z0a hrb rfl
 rw [hk] at c0
 clear hW1 hb1 hB hrb
 have HOK:=hid hok
 have u1:=z0i hok.sg
 have u2:=z0i hok.tx
 have u3:IntKind.u64.wrap r.st=r.st:=z0i ⟨hok.st.1,Int.le_trans hok.st.2 (by decide)⟩
 have u4:IntKind.u64.wrap r.o=r.o:=z0i ⟨hok.o.1,Int.le_trans hok.o.2 (by decide)⟩
 change IntKind.u64.wrap r.sg=r.sg at u1
 change IntKind.u64.wrap r.tx=r.tx at u2
 have hpa:=z0v 9 W1
 unfold z0u at hpa
 rw [show ptc 9=#[.bool true,.bool false,.bool false,.bool false,.bool true,.bool false] from rfl] at hpa
 clear hok
 go_enter Tryd.func21,Tryd.ntmps21
 go_upto_region 1 with (fail)
 rw [HW1.out,HRE.out]
 go_wp2_with fail
 refine hpa.mono ?_
 rintro e w2 ⟨rfl,h2⟩
 have HB2:=hid (HB1.out.trans (h2.mono HB1.out.size))
 have HX2:=hid (HX1.out.later h2)
 clear h2 hpa c0
 obtain⟨N2,hN2⟩:∃ n,w2.heap.size=n:=⟨_,rfl⟩
 obtain⟨w3,hwn,hxn,hbn⟩:∃ w3,(w2.alloc (.cells pz 56)).setRow N2 #[.bool true,.bool false,.bool false,.bool false,.bool true,.bool false]=w3∧w3.heap[N2]?=some (.cells #[.bool true,.bool false,.bool false,.bool false,.bool true,.bool false] 56 (0,0))∧Below w2.heap.size w2 w3:=⟨_,rfl,by rw [← hN2];exact setRow_heap _ _ _ _ _ _ (z0b w2 _),below_setRow ((Below.refl _ _).alloc (Nat.le_refl _) _) (by omega) _⟩
 have hx2:=z0b w2 (.cells pz 56)
 rw [hN2] at hx2
 have HPX:=hid hxn
 have HPZ:=hid hx2
 have HBN:=hid hbn
 have HWN:=hid hwn
 have HNN:=hid hN2
 have HS6:Hid ((#[.bool true,.bool false,.bool false,.bool false,.bool true,.bool false]:Array Value).size=6):=hid rfl
 have HA6:Hid ((#[.bool true,.bool false,.bool false,.bool false,.bool true,.bool false]:Array Value).all (·.oneCell')=true):=hid (by simp [Value.oneCell'])
 clear hx2 hxn hbn hwn hN2
 have HB3:=hid (HB2.out.trans (HBN.out.mono HB2.out.size))
 have HX3:=hid (HX2.out.later HBN.out)
 go_wp2_with ((try rw [HNN.out]);(with_reducible refine z0e #[.bool true,.bool false,.bool false,.bool false,.bool true,.bool false] HS6.out HA6.out HPZ.out ?_ ?_ ?_);rfl;rfl;rw [HWN.out])
 refine (new_ok w3 w3 512 (Below.refl _ _)).mono ?_
 rintro e w4 ⟨Bw,rfl,hkk⟩
 rw [show lim 512=512 from rfl] at hkk
 have HK4:=hid hkk
 clear hkk
 have gp:=z0c HPX.out HK4.out.below
 have HGX:=hid (HX3.out.later HK4.out.below)
 have p0:w4.cell? ⟨N2,0,none⟩=some (.bool true):=z0a gp rfl
 have p1:w4.cell? ⟨N2,1,none⟩=some (.bool false):=z0a gp rfl
 have p2:w4.cell? ⟨N2,2,none⟩=some (.bool false):=z0a gp rfl
 have p3:w4.cell? ⟨N2,3,none⟩=some (.bool false):=z0a gp rfl
 have p4:w4.cell? ⟨N2,4,none⟩=some (.bool true):=z0a gp rfl
 have p5:w4.cell? ⟨N2,5,none⟩=some (.bool false):=z0a gp rfl
 obtain⟨c0,c1,c2,c3,c4,c5,c6,c7,c8,c9⟩:=HGX.out.at
 rw [hk] at c0
 clear gp
 go_wp2_with fail
 refine (wo_num1 HK4.out 9 (by omega) (by simp)).mono ?_
 rintro e w5 ⟨rfl,hkk⟩
 have HK5:=hid hkk
 clear hkk HK4
 clear p0 p1 p2 p3 p4 p5 c0 c1 c2 c3 c4 c5 c6 c7 c8 c9 HGX
 have gp:=z0c HPX.out HK5.out.below
 have HGX:=hid (HX3.out.later HK5.out.below)
 have p0:w5.cell? ⟨N2,0,none⟩=some (.bool true):=z0a gp rfl
 have p1:w5.cell? ⟨N2,1,none⟩=some (.bool false):=z0a gp rfl
 have p2:w5.cell? ⟨N2,2,none⟩=some (.bool false):=z0a gp rfl
 have p3:w5.cell? ⟨N2,3,none⟩=some (.bool false):=z0a gp rfl
 have p4:w5.cell? ⟨N2,4,none⟩=some (.bool true):=z0a gp rfl
 have p5:w5.cell? ⟨N2,5,none⟩=some (.bool false):=z0a gp rfl
 obtain⟨c0,c1,c2,c3,c4,c5,c6,c7,c8,c9⟩:=HGX.out.at
 rw [hk] at c0
 clear gp
 go_wp2_with fail
 refine (wo_num4 HK5.out r.sg HOK.out.sg (by simp only [List.length_append,List.length_nil,z0h];omega)).mono ?_
 rintro e w6 ⟨rfl,hkk⟩
 have HK6:=hid hkk
 clear hkk HK5
 clear p0 p1 p2 p3 p4 p5 c0 c1 c2 c3 c4 c5 c6 c7 c8 c9 HGX
 have gp:=z0c HPX.out HK6.out.below
 have HGX:=hid (HX3.out.later HK6.out.below)
 have p0:w6.cell? ⟨N2,0,none⟩=some (.bool true):=z0a gp rfl
 have p1:w6.cell? ⟨N2,1,none⟩=some (.bool false):=z0a gp rfl
 have p2:w6.cell? ⟨N2,2,none⟩=some (.bool false):=z0a gp rfl
 have p3:w6.cell? ⟨N2,3,none⟩=some (.bool false):=z0a gp rfl
 have p4:w6.cell? ⟨N2,4,none⟩=some (.bool true):=z0a gp rfl
 have p5:w6.cell? ⟨N2,5,none⟩=some (.bool false):=z0a gp rfl
 obtain⟨c0,c1,c2,c3,c4,c5,c6,c7,c8,c9⟩:=HGX.out.at
 rw [hk] at c0
 clear gp
 go_wp2_with fail
 refine (wo_num1 HK6.out r.o HOK.out.o (by simp only [List.length_append,List.length_nil,z0h];omega)).mono ?_
 rintro e w7 ⟨rfl,hkk⟩
 have HK7:=hid hkk
 clear hkk HK6
 clear p0 p1 p2 p3 p4 p5 c0 c1 c2 c3 c4 c5 c6 c7 c8 c9 HGX
 have gp:=z0c HPX.out HK7.out.below
 have HGX:=hid (HX3.out.later HK7.out.below)
 have p0:w7.cell? ⟨N2,0,none⟩=some (.bool true):=z0a gp rfl
 have p1:w7.cell? ⟨N2,1,none⟩=some (.bool false):=z0a gp rfl
 have p2:w7.cell? ⟨N2,2,none⟩=some (.bool false):=z0a gp rfl
 have p3:w7.cell? ⟨N2,3,none⟩=some (.bool false):=z0a gp rfl
 have p4:w7.cell? ⟨N2,4,none⟩=some (.bool true):=z0a gp rfl
 have p5:w7.cell? ⟨N2,5,none⟩=some (.bool false):=z0a gp rfl
 obtain⟨c0,c1,c2,c3,c4,c5,c6,c7,c8,c9⟩:=HGX.out.at
 rw [hk] at c0
 clear gp
 go_wp2_with fail
 have hbx:(((([]:List Nat)++le ((9:Int)).toNat 1)++le r.sg.toNat 4)++le r.o.toNat 1)=z0f (r.x L T M):=by
  unfold z0f
  rw [show ((r.x L T M)).k=9 from hk]
  simp [kS,kT,kB,kA,kO,kP,Rv.x,List.append_assoc]
 have hlx:(z0f (r.x L T M)).length≤100000:=by rw [← hbx];simp only [List.length_append,List.length_nil,List.length_cons,z0h,keyB];omega
 have HKz:Hid (WrOk w3 w7 Bw 512 (0,z0f (r.x L T M))):=hid (by rw [← hbx];exact HK7.out)
 clear hbx HK7
 generalize z0f (r.x L T M)=Z at *
 refine (z2b w3 w7 Bw 512 Z HKz.out hlx).mono ?_
 rintro e w8 ⟨pz',cz,rfl,hbz,hsz,_⟩
 have HF:Hid (z2d W Z (.returned (.tuple #[.slice pz' Z.length cz,.int .i64 0])) w8):=hid ⟨pz',cz,rfl,hsz,HB3.out.trans (hbz.mono HB3.out.size)⟩
 clear hbz hsz hlx
 generalize Z.length=nz at *
 clear p0 p1 p2 p3 p4 p5 c0 c1 c2 c3 c4 c5 c6 c7 c8 c9 HGX
 go_wp2_with fail
 go_ret2
 exact HF.out
end Go.Proofs.YtclbkfpbdidaiaaDoor
