import Derived.Test.YtnpjpelbcmgodaaDoorPC37
namespace Go.Proofs.YtnpjpelbcmgodaaDoor
open Go.Lib (hid)
set_option maxHeartbeats 8000000
open Go.RowKit Go.ChangeShapes Go.WideShapes
set_option linter.unusedVariables false
set_option linter.unusedSimpArgs false
set_option maxRecDepth 10000
theorem cr_rstart (r:Rv) (L:List Ln) (T:List Tk) (M:List Ln) (W:World) (hR:RvM W r L T M) (hrk:Rxok (r.x L T M)) (h2:r.ln≤400∧r.tn≤400∧r.wn≤400):Calls Tryd.prog 12 #[.agg (rcs r)] W (z6l W (z2z (r.x L T M)).1 (z2z (r.x L T M)).2):=by
 obtain⟨W1,hW1,hy,hz,hsz,hb1⟩:=cr_two0 W r
 obtain⟨B,hB⟩:∃ B,W.heap.size=B:=⟨_,rfl⟩
 rw [hB] at hy hz hsz
 have HY:=hid hy
 have HZ:=hid hz
 have HW1:=hid hW1
 have HB1:=hid hb1
 have HRE:=hid hB
 have HR:=hid (rrec_good r L T M W1 (PgM.later hR hb1) hrk ⟨by omega,by omega,by omega⟩)
 have HRM:=hid fun w' (hb:Below W.heap.size W w')=>PgM.later hR hb
 have HSX:Hid (z2z (r.x L T M)=if r.k=1∧z1f (r.x L T M)=true then (⟨r.sg,r.pg L T M,false,0,0,0⟩,0) else (noC,1)):=hid rfl
 obtain⟨g,hg⟩:∃ g,z1f (r.x L T M)=g:=⟨_,rfl⟩
 rw [hg] at HR HSX
 generalize z2z (r.x L T M)=A at *
 have HNO:Hid (∀ w',Below W.heap.size W w'→RvM (w'.setRow (B+1) (ccs cz)) cz.p [] [] []):=hid fun w' _=>rz_m _
 clear hW1 hy hz hsz hb1 hB hR hrk h2 hg
 go_enter Tryd.func12,Tryd.ntmps12
 go_upto_region 1 with (fail)
 rw [HW1.out,HRE.out]
 go_wp2_with ((with_reducible refine z0u HY.out ?_ ?_);rfl)
 refine HR.out.mono ?_
 cases g with
 | false =>
  have HE:Hid (A=(noC,1)):=hid (by rw [HSX.out,if_neg (fun h=>by cases h.2)])
  clear HRM HSX
  rintro e w2 ⟨rfl,h2⟩
  have HZ2:=hid (HZ.out.later h2)
  have HB2:=hid (HB1.out.trans (h2.mono HB1.out.size))
  have HZF:=hid (HZ2.out.set cz)
  clear h2 HR
  go_wp2_with ((with_reducible refine z0j cz HZ2.out ?_ ?_ ?_);rfl;rfl)
  (try simp only [Exit.inBlock,Exit.then])
  refine bodyPost_ret (v:=.tuple #[.agg (ccs cz),.int .i64 1]) ?_ rfl ?_
  · exact z2q rfl _ _ (B+1) _ _ rfl rfl HZF.out
  · rw [HE.out]
    exact⟨cz,[],[],[],rfl,HNO.out _ HB2.out,cz_x,below_setRow HB2.out (by have:=HRE.out;omega) _⟩
 | true =>
  rintro e w2 ⟨rfl,h2⟩
  have HY2:=hid (HY.out.later h2)
  have HZ2:=hid (HZ.out.later h2)
  have HB2:=hid (HB1.out.trans (h2.mono HB1.out.size))
  have y0:=HY2.out.at.1
  clear h2 HR HY HZ
  by_cases hk:r.k=1
  · rw [hk] at y0
    have HE:Hid (A=(⟨r.sg,r.pg L T M,false,0,0,0⟩,0)):=hid (by rw [HSX.out,if_pos ⟨hk,rfl⟩])
    obtain⟨cc,hcc⟩:∃ cc:Cv,cc=⟨r.sg,r,false,0,0,0⟩:=⟨_,rfl⟩
    have HXX:Hid (cc.x L T M=⟨r.sg,r.pg L T M,false,0,0,0⟩):=hid (by rw [hcc];rfl)
    have HPP:Hid (cc.p=r):=hid (by rw [hcc])
    have HZF:=hid (HZ2.out.set cc)
    have HCC:=hid hcc
    clear hk HSX HNO hcc
    go_upto_region 3 with (fail)
    have y1:=HY2.out.at.2.1
    have z0:=z0a (j:=10) HY2.out (v:=.int .u8 r.pk) rfl
    have z1:=z0a (j:=11) HY2.out (v:=.int .u32 r.od) rfl
    have z2:=z0a (j:=12) HY2.out (v:=.int .u8 r.po) rfl
    have z3:=z0a (j:=13) HY2.out (v:=.slice r.lp r.ln r.lcp) rfl
    have z4:=z0a (j:=14) HY2.out (v:=.slice r.tp r.tn r.tcp) rfl
    have z5:=z0a (j:=15) HY2.out (v:=.slice r.wp r.wn r.wcp) rfl
    have z6:=z0a (j:=16) HY2.out (v:=.int .u8 r.sk) rfl
    have z7:=z0a (j:=17) HY2.out (v:=.int .u8 r.fr) rfl
    have z8:=z0a (j:=18) HY2.out (v:=.int .u8 r.to) rfl
    have z9:=z0a (j:=19) HY2.out (v:=.int .i64 r.q) rfl
    clear y0
    go_wp2_with ((with_reducible refine z0j cc HZ2.out ?_ ?_ ?_);rfl;(rw [HCC.out];rfl))
    (try simp only [Exit.inBlock,Exit.then])
    refine bodyPost_ret (v:=.tuple #[.agg (ccs cc),.int .i64 0]) ?_ rfl ?_
    · exact z2q rfl _ _ (B+1) _ _ rfl rfl HZF.out
    · rw [HE.out]
      have hbf:=below_setRow HB2.out (show W.heap.size≤B+1 by have:=HRE.out;omega) (ccs cc)
      exact⟨cc,L,T,M,rfl,(by show RvM _ cc.p L T M;rw [HPP.out];exact HRM.out _ hbf),HXX.out,hbf⟩
  · have b1:(r.k != 1)=true:=bne_iff_ne.2 hk
    have HE:Hid (A=(noC,1)):=hid (by rw [HSX.out,if_neg (fun h=>hk h.1)])
    have HZF:=hid (HZ2.out.set cz)
    clear HRM HSX hk
    go_wp2_with ((with_reducible refine z0j cz HZ2.out ?_ ?_ ?_);rfl;rfl)
    (try simp only [Exit.inBlock,Exit.then])
    refine bodyPost_ret (v:=.tuple #[.agg (ccs cz),.int .i64 1]) ?_ rfl ?_
    · exact z2q rfl _ _ (B+1) _ _ rfl rfl HZF.out
    · rw [HE.out]
      exact⟨cz,[],[],[],rfl,HNO.out _ HB2.out,cz_x,below_setRow HB2.out (by have:=HRE.out;omega) _⟩
end Go.Proofs.YtnpjpelbcmgodaaDoor
namespace Go.Proofs.YtnpjpelbcmgodaaDoor
open Go.Lib (hid)
set_option maxHeartbeats 8000000
open Go.RowKit Go.ChangeShapes Go.WideShapes Go.Deep
set_option linter.unusedVariables false
set_option maxRecDepth 10000
theorem recCells20:Tryd.prog.cellsOf 32=20:=by kernel_rfl
def RecIn (w:World) (a:Array Value):Prop:=∃ (r:Rv) (L:List Ln) (T:List Tk) (M:List Ln),a=rcs r∧Rxok (r.x L T M)∧RvM w r L T M
section
variable {H:Type} {enc:TypeId × Value→H} {w:World} {base:Nat} {held:Bool}
theorem rkey_trod {fuel:Nat} {x y z:Value} {d:DataW H × List MemPlace} (h:DataW.trod enc Tryd.prog w base (fun _=>true) held fuel 30 [x,y,z]=some d):∃ k:K,Kok k∧x=.int .u8 k.1∧y=.int .u8 k.2.1∧z=.int .u8 k.2.2:=by
 obtain⟨xs,n,_,_,hlen,hxl,hg⟩:=DataW.trod_struct Tryd.underlying30 h
 have h3:xs.length=3:=hxl
 have t0:=hg 0 _ rfl
 have t1:=hg 1 _ rfl
 have t2:=hg 2 _ rfl
 rw [List.getElem?_eq_getElem (by omega)] at t0 t1 t2
 have e0:DataW.trod enc Tryd.prog w base (fun _=>true) held n 5 [x]=some (xs[0]'(by omega)):=t0
 have e1:DataW.trod enc Tryd.prog w base (fun _=>true) held n 5 [y]=some (xs[1]'(by omega)):=t1
 have e2:DataW.trod enc Tryd.prog w base (fun _=>true) held n 5 [z]=some (xs[2]'(by omega)):=t2
 obtain⟨z0,hv0,_,wf0⟩:=DataW.trod_int Tryd.underlying5 e0
 obtain⟨z1,hv1,_,wf1⟩:=DataW.trod_int Tryd.underlying5 e1
 obtain⟨z2,hv2,_,wf2⟩:=DataW.trod_int Tryd.underlying5 e2
 simp at hv0 hv1 hv2
 exact⟨(z0,z1,z2),⟨bounds_u8 wf0,bounds_u8 wf1,bounds_u8 wf2⟩,hv0,hv1,hv2⟩
theorem prog_trod {fuel:Nat} {v0 v1 v2 v3 v4 v5 v6 v7 v8 v9:Value} {d:DataW H × List MemPlace} (hf:DataW.trod enc Tryd.prog w base (fun _=>true) held fuel 26 [v0,v1,v2,v3,v4,v5,v6,v7,v8,v9]=some d):∃ (k od po:Int) (lp:Option Addr) (ln lcp:Nat) (tp:Option Addr) (tn tcp:Nat) (wp:Option Addr) (wn wcp:Nat) (sk fr to q:Int) (L:List Ln) (T:List Tk) (M:List Ln),[v0,v1,v2,v3,v4,v5,v6,v7,v8,v9]=[.int .u8 k,.int .u32 od,.int .u8 po,.slice lp ln lcp,.slice tp tn tcp,.slice wp wn wcp,.int .u8 sk,.int .u8 fr,.int .u8 to,.int .i64 q]∧Pgok ⟨k,od,po,L,T,M,sk,fr,to,q⟩∧PgM w lp ln lcp L tp tn tcp T wp wn wcp M:=by
 obtain⟨xs,n,_,_,hlen,hxl,hg⟩:=DataW.trod_struct Tryd.underlying26 hf
 have h10:xs.length=10:=hxl
 have t0:=hg 0 _ rfl
 have t1:=hg 1 _ rfl
 have t2:=hg 2 _ rfl
 have t3:=hg 3 _ rfl
 have t4:=hg 4 _ rfl
 have t5:=hg 5 _ rfl
 have t6:=hg 6 _ rfl
 have t7:=hg 7 _ rfl
 have t8:=hg 8 _ rfl
 have t9:=hg 9 _ rfl
 rw [List.getElem?_eq_getElem (by omega)] at t0 t1 t2 t3 t4 t5 t6 t7 t8 t9
 have e0:DataW.trod enc Tryd.prog w base (fun _=>true) held n 5 [v0]=some (xs[0]'(by omega)):=t0
 have e1:DataW.trod enc Tryd.prog w base (fun _=>true) held n 22 [v1]=some (xs[1]'(by omega)):=t1
 have e2:DataW.trod enc Tryd.prog w base (fun _=>true) held n 5 [v2]=some (xs[2]'(by omega)):=t2
 have e3:DataW.trod enc Tryd.prog w base (fun _=>true) held n 23 [v3]=some (xs[3]'(by omega)):=t3
 have e4:DataW.trod enc Tryd.prog w base (fun _=>true) held n 24 [v4]=some (xs[4]'(by omega)):=t4
 have e5:DataW.trod enc Tryd.prog w base (fun _=>true) held n 23 [v5]=some (xs[5]'(by omega)):=t5
 have e6:DataW.trod enc Tryd.prog w base (fun _=>true) held n 5 [v6]=some (xs[6]'(by omega)):=t6
 have e7:DataW.trod enc Tryd.prog w base (fun _=>true) held n 5 [v7]=some (xs[7]'(by omega)):=t7
 have e8:DataW.trod enc Tryd.prog w base (fun _=>true) held n 5 [v8]=some (xs[8]'(by omega)):=t8
 have e9:DataW.trod enc Tryd.prog w base (fun _=>true) held n 2 [v9]=some (xs[9]'(by omega)):=t9
 obtain⟨z0,hv0,_,wf0⟩:=DataW.trod_int Tryd.underlying5 e0
 obtain⟨z1,hv1,_,wf1⟩:=DataW.trod_int Tryd.underlying22 e1
 obtain⟨z2,hv2,_,wf2⟩:=DataW.trod_int Tryd.underlying5 e2
 obtain⟨z6,hv6,_,wf6⟩:=DataW.trod_int Tryd.underlying5 e6
 obtain⟨z7,hv7,_,wf7⟩:=DataW.trod_int Tryd.underlying5 e7
 obtain⟨z8,hv8,_,wf8⟩:=DataW.trod_int Tryd.underlying5 e8
 obtain⟨z9,hv9,_,wf9⟩:=DataW.trod_int Tryd.underlying2 e9
 simp at hv0 hv1 hv2 hv6 hv7 hv8 hv9
 subst hv0 hv1 hv2 hv6 hv7 hv8 hv9
 obtain⟨p3,n3,c3,rfl⟩:=z4t Tryd.underlying23 e3
 obtain⟨p4,n4,c4,rfl⟩:=z4t Tryd.underlying24 e4
 obtain⟨p5,n5,c5,rfl⟩:=z4t Tryd.underlying23 e5
 obtain⟨L,hL,hLok⟩:=open_lines e3
 obtain⟨T,hT,hTok⟩:=open_takes e4
 obtain⟨M,hM,hMok⟩:=open_lines e5
 exact⟨z0,z1,z2,p3,n3,c3,p4,n4,c4,p5,n5,c5,z6,z7,z8,z9,L,T,M,rfl,⟨bounds_u8 wf0,z4p wf1,bounds_u8 wf2,hLok,hTok,hMok,bounds_u8 wf6,bounds_u8 wf7,bounds_u8 wf8,bounds_i64 wf9⟩,⟨hL,hT,hM⟩⟩
end
theorem rec_trod {H:Type} {enc:TypeId × Value→H} {w:World} {base:Nat} {held:Bool} {fuel:Nat} {cs:List Value} {d:DataW H × List MemPlace} (hf:DataW.trod enc Tryd.prog w base (fun _=>true) held fuel 32 cs=some d):∃ (r:Rv) (L:List Ln) (T:List Tk) (M:List Ln),cs=(rcs r).toList∧Rxok (r.x L T M)∧RvM w r L T M:=by
 obtain⟨xs,n,_,_,hlen,hxl,hg⟩:=DataW.trod_struct Tryd.underlying32 hf
 rw [recCells20] at hlen
 have h9:xs.length=9:=hxl
 obtain⟨v0,v1,v2,v3,v4,v5,v6,v7,v8,v9,v10,v11,v12,v13,v14,v15,v16,v17,v18,v19,rfl⟩:∃ v0 v1 v2 v3 v4 v5 v6 v7 v8 v9 v10 v11 v12 v13 v14 v15 v16 v17 v18 v19,cs=[v0,v1,v2,v3,v4,v5,v6,v7,v8,v9,v10,v11,v12,v13,v14,v15,v16,v17,v18,v19]:=by
  match cs,hlen with
  | [a0,a1,a2,a3,a4,a5,a6,a7,a8,a9,a10,a11,a12,a13,a14,a15,a16,a17,a18,a19],_=>exact⟨a0,a1,a2,a3,a4,a5,a6,a7,a8,a9,a10,a11,a12,a13,a14,a15,a16,a17,a18,a19,rfl⟩
 have t0:=hg 0 _ rfl
 have t1:=hg 1 _ rfl
 have t2:=hg 2 _ rfl
 have t3:=hg 3 _ rfl
 have t4:=hg 4 _ rfl
 have t5:=hg 5 _ rfl
 have t6:=hg 6 _ rfl
 have t7:=hg 7 _ rfl
 have t8:=hg 8 _ rfl
 rw [List.getElem?_eq_getElem (by omega)] at t0 t1 t2 t3 t4 t5 t6 t7 t8
 have e0:DataW.trod enc Tryd.prog w base (fun _=>true) held n 5 [v0]=some (xs[0]'(by omega)):=t0
 have e1:DataW.trod enc Tryd.prog w base (fun _=>true) held n 22 [v1]=some (xs[1]'(by omega)):=t1
 have e2:DataW.trod enc Tryd.prog w base (fun _=>true) held n 22 [v2]=some (xs[2]'(by omega)):=t2
 have e3:DataW.trod enc Tryd.prog w base (fun _=>true) held n 5 [v3]=some (xs[3]'(by omega)):=t3
 have e4:DataW.trod enc Tryd.prog w base (fun _=>true) held n 4 [v4]=some (xs[4]'(by omega)):=t4
 have e5:DataW.trod enc Tryd.prog w base (fun _=>true) held n 30 [v5,v6,v7]=some (xs[5]'(by omega)):=t5
 have e6:DataW.trod enc Tryd.prog w base (fun _=>true) held n 2 [v8]=some (xs[6]'(by omega)):=t6
 have e7:DataW.trod enc Tryd.prog w base (fun _=>true) held n 5 [v9]=some (xs[7]'(by omega)):=t7
 have e8:DataW.trod enc Tryd.prog w base (fun _=>true) held n 26 [v10,v11,v12,v13,v14,v15,v16,v17,v18,v19]=some (xs[8]'(by omega)):=t8
 obtain⟨z0,hv0,_,wf0⟩:=DataW.trod_int Tryd.underlying5 e0
 obtain⟨z1,hv1,_,wf1⟩:=DataW.trod_int Tryd.underlying22 e1
 obtain⟨z2,hv2,_,wf2⟩:=DataW.trod_int Tryd.underlying22 e2
 obtain⟨z3,hv3,_,wf3⟩:=DataW.trod_int Tryd.underlying5 e3
 obtain⟨z6,hv6,_,wf6⟩:=DataW.trod_int Tryd.underlying2 e6
 obtain⟨z7,hv7,_,wf7⟩:=DataW.trod_int Tryd.underlying5 e7
 obtain⟨z4,hv4,_⟩:=DataW.trod_bool Tryd.underlying4 e4
 obtain⟨key,hkey,hk0,hk1,hk2⟩:=rkey_trod e5
 obtain⟨k,od,po,lp,ln,lcp,tp,tn,tcp,wp,wn,wcp,sk,fr,to,q,L,T,M,hpe,hpok,hpm⟩:=prog_trod e8
 simp at hv0 hv1 hv2 hv3 hv4 hv6 hv7
 simp only [List.cons.injEq,and_true] at hpe
 obtain⟨g0,g1,g2,g3,g4,g5,g6,g7,g8,g9⟩:=hpe
 subst hv0 hv1 hv2 hv3 hv4 hv6 hv7 hk0 hk1 hk2 g0 g1 g2 g3 g4 g5 g6 g7 g8 g9
 exact⟨⟨z0,z1,z2,z3,z4,key.1,key.2.1,key.2.2,z6,z7,k,od,po,lp,ln,lcp,tp,tn,tcp,wp,wn,wcp,sk,fr,to,q⟩,L,T,M,rfl,⟨bounds_u8 wf0,z4p wf1,z4p wf2,bounds_u8 wf3,hkey,bounds_i64 wf6,bounds_u8 wf7,hpok⟩,hpm⟩
theorem open_rec {H:Type} {enc:TypeId × Value→H} {w:World} {base b0:Nat} {held:Bool} {r:Reach} {v:Value} {d:DataW H} {p:List MemPlace}
 (hv:Value.okWide Tryd.prog w r b0 32 v) (h:DataW.Trod enc Tryd.prog w base (fun _=>true) held 32 v d p):∃ c,v=.agg c∧RecIn w c:=by
 obtain⟨c,rfl,hsz⟩:=okWide_struct Tryd.underlying32 hv
 obtain⟨fuel,hf⟩:=h
 obtain⟨r,L,T,M,hcs,hok,hm⟩:=rec_trod hf
 exact⟨c,rfl,r,L,T,M,Array.ext' hcs,hok,hm⟩
theorem crsCells15:Tryd.prog.cellsOf 28=15:=by kernel_rfl
def z8v (w:World) (a:Array Value):Prop:=∃ (c:Cv) (L:List Ln) (T:List Tk) (M:List Ln),a=ccs c∧Crok (c.x L T M)∧CvM w c L T M
theorem crs_trod {H:Type} {enc:TypeId × Value→H} {w:World} {base:Nat} {held:Bool} {fuel:Nat} {cs:List Value} {d:DataW H × List MemPlace} (hf:DataW.trod enc Tryd.prog w base (fun _=>true) held fuel 28 cs=some d):∃ (c:Cv) (L:List Ln) (T:List Tk) (M:List Ln),cs=(ccs c).toList∧Crok (c.x L T M)∧CvM w c L T M:=by
 obtain⟨xs,n,_,_,hlen,hxl,hg⟩:=DataW.trod_struct Tryd.underlying28 hf
 rw [crsCells15] at hlen
 have h6:xs.length=6:=hxl
 obtain⟨v0,v1,v2,v3,v4,v5,v6,v7,v8,v9,v10,v11,v12,v13,v14,rfl⟩:∃ v0 v1 v2 v3 v4 v5 v6 v7 v8 v9 v10 v11 v12 v13 v14,cs=[v0,v1,v2,v3,v4,v5,v6,v7,v8,v9,v10,v11,v12,v13,v14]:=by
  match cs,hlen with
  | [a0,a1,a2,a3,a4,a5,a6,a7,a8,a9,a10,a11,a12,a13,a14],_=>exact⟨a0,a1,a2,a3,a4,a5,a6,a7,a8,a9,a10,a11,a12,a13,a14,rfl⟩
 have t0:=hg 0 _ rfl
 have t1:=hg 1 _ rfl
 have t2:=hg 2 _ rfl
 have t3:=hg 3 _ rfl
 have t4:=hg 4 _ rfl
 have t5:=hg 5 _ rfl
 rw [List.getElem?_eq_getElem (by omega)] at t0 t1 t2 t3 t4 t5
 have e0:DataW.trod enc Tryd.prog w base (fun _=>true) held n 22 [v0]=some (xs[0]'(by omega)):=t0
 have e1:DataW.trod enc Tryd.prog w base (fun _=>true) held n 26 [v1,v2,v3,v4,v5,v6,v7,v8,v9,v10]=some (xs[1]'(by omega)):=t1
 have e2:DataW.trod enc Tryd.prog w base (fun _=>true) held n 4 [v11]=some (xs[2]'(by omega)):=t2
 have e3:DataW.trod enc Tryd.prog w base (fun _=>true) held n 3 [v12]=some (xs[3]'(by omega)):=t3
 have e4:DataW.trod enc Tryd.prog w base (fun _=>true) held n 3 [v13]=some (xs[4]'(by omega)):=t4
 have e5:DataW.trod enc Tryd.prog w base (fun _=>true) held n 22 [v14]=some (xs[5]'(by omega)):=t5
 obtain⟨z0,hv0,_,wf0⟩:=DataW.trod_int Tryd.underlying22 e0
 obtain⟨z2,hv2,_⟩:=DataW.trod_bool Tryd.underlying4 e2
 obtain⟨z3,hv3,_,wf3⟩:=DataW.trod_int Tryd.underlying3 e3
 obtain⟨z4,hv4,_,wf4⟩:=DataW.trod_int Tryd.underlying3 e4
 obtain⟨z5,hv5,_,wf5⟩:=DataW.trod_int Tryd.underlying22 e5
 obtain⟨k,od,po,lp,ln,lcp,tp,tn,tcp,wp,wn,wcp,sk,fr,to,q,L,T,M,hpe,hpok,hpm⟩:=prog_trod e1
 simp at hv0 hv2 hv3 hv4 hv5
 simp only [List.cons.injEq,and_true] at hpe
 obtain⟨g0,g1,g2,g3,g4,g5,g6,g7,g8,g9⟩:=hpe
 subst hv0 hv2 hv3 hv4 hv5 g0 g1 g2 g3 g4 g5 g6 g7 g8 g9
 exact⟨⟨z0,⟨0,0,0,0,false,0,0,0,0,0,k,od,po,lp,ln,lcp,tp,tn,tcp,wp,wn,wcp,sk,fr,to,q⟩,z2,z3,z4,z5⟩,L,T,M,rfl,⟨z4p wf0,hpok,bounds_i64 wf3,bounds_i64 wf4,z4p wf5⟩,hpm⟩
theorem z7a {H:Type} {enc:TypeId × Value→H} {w:World} {base b0:Nat} {held:Bool} {r:Reach} {v:Value} {d:DataW H} {p:List MemPlace}
 (hv:Value.okWide Tryd.prog w r b0 28 v) (h:DataW.Trod enc Tryd.prog w base (fun _=>true) held 28 v d p):∃ c,v=.agg c∧z8v w c:=by
 obtain⟨c,rfl,hsz⟩:=okWide_struct Tryd.underlying28 hv
 obtain⟨fuel,hf⟩:=h
 obtain⟨r,L,T,M,hcs,hok,hm⟩:=crs_trod hf
 exact⟨c,rfl,r,L,T,M,Array.ext' hcs,hok,hm⟩
end Go.Proofs.YtnpjpelbcmgodaaDoor
