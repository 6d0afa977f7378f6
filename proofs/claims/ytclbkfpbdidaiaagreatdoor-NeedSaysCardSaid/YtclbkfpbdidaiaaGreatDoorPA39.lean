import Derived.Test.YtclbkfpbdidaiaaGreatDoorPA99
import Derived.Test.YtclbkfpbdidaiaaGreatDoorPA37
import Derived.Test.YtclbkfpbdidaiaaGreatDoorPA38
namespace Go.Proofs.YtclbkfpbdidaiaaGreatDoor
open Go.Lib (hid)
set_option maxHeartbeats 8000000
open Go.RowKit Go.ChangeShapes Go.WideShapes
set_option linter.unusedVariables false
set_option linter.unusedSimpArgs false
set_option maxRecDepth 10000
theorem rrec_bytes (r:Rv) (L:List Ln) (T:List Tk) (M:List Ln) (W:World) (hP:RvM W r L T M) (hok:Rxok (r.x L T M)) (h1:r.ln≤20∧r.tn≤30∧r.wn≤20) (hg:z1n (r.x L T M)=true):Calls Tryz.prog 86 #[.agg (rcs r)] W (Copied W (z0l (r.x L T M)).length (z0l (r.x L T M))):=by
 have hk:kOk r.k=true:=goodX_kOk hg
 rcases kOk_cases hk with h | h | h | h | h | h | h | h | h
 · exact rrec_bytes1 r L T M W hP hok h1 h (by have:=goodX_prog hg;rw [show (r.x L T M).k=1 from h] at this;exact this)
 · exact rrec_bytes2 r L T M W hP hok h1 h
 · exact rrec_bytes3 r L T M W hP hok h1 h
 · exact rrec_bytes4 r L T M W hP hok h1 h
 · exact rrec_bytes5 r L T M W hP hok h1 h
 · exact rrec_bytes6 r L T M W hP hok h1 h
 · exact rrec_bytes7 r L T M W hP hok h1 h
 · exact rrec_bytes8 r L T M W hP hok h1 h
 · exact rrec_bytes9 r L T M W hP hok h1 h
theorem rsize_x (r:Rv) (L:List Ln) (T:List Tk) (M:List Ln) (W:World) (hP:RvM W r L T M) (hok:Rxok (r.x L T M)) (h1:r.ln≤20∧r.tn≤30∧r.wn≤20):Calls Tryz.prog 56 #[.agg (rcs r)] W fun e w'=>e=.returned (.int .i64 (sizeX (r.x L T M)))∧Below W.heap.size W w':=by
 obtain⟨W1,hW1,hb1⟩:∃ W1,W.alloc (.cells (rcs r) 42)=W1∧Below W.heap.size W W1:=⟨_,rfl,(Below.refl _ _).alloc (Nat.le_refl _) _⟩
 obtain⟨B,hB⟩:∃ B,W.heap.size=B:=⟨_,rfl⟩
 have hrb:=RB.new W r
 rw [hW1,hB] at hrb
 have HX1:=hid hrb
 have HW1:=hid hW1
 have HB1:=hid hb1
 have HRE:=hid hB
 have hgd:=rrec_good r L T M W1 (hP.later hb1) hok ⟨by omega,by omega,by omega⟩
 have HBY:=hid (fun (hg:z1n (r.x L T M)=true) w (h:Below W1.heap.size W1 w)=>rrec_bytes r L T M w (hP.later (hb1.trans (h.mono hb1.size))) hok h1 hg)
 clear hW1 hB hb1 hrb hP hok h1
 cases hg:z1n (r.x L T M) with
 | false =>
  have HG:Hid (sizeX (r.x L T M)=0):=hid (by unfold sizeX;rw [hg];rfl)
  rw [hg] at hgd
  clear hg
  go_enter Tryz.func56,Tryz.ntmps56
  go_upto_region 1 with (fail)
  rw [HW1.out,HRE.out]
  go_wp2_with ((with_reducible refine z1l HX1.out ?_ ?_);rfl)
  refine hgd.mono ?_
  rintro e w2 ⟨rfl,hb2⟩
  have HB2:=hid (HB1.out.trans (hb2.mono HB1.out.size))
  clear hb2 hgd
  go_wp2_with fail
  go_ret
  exact⟨by rw [HG.out];rfl,HB2.out⟩
 | true =>
  have hl:=good_len hg
  have HG:Hid (sizeX (r.x L T M)=6+((z0l (r.x L T M)).length:Int)):=hid (if_pos hg)
  have hby:=HBY.out hg
  rw [hg] at hgd
  clear hg
  generalize z0l (r.x L T M)=Y at *
  generalize Y.length=n at *
  go_enter Tryz.func56,Tryz.ntmps56
  go_upto_region 1 with (fail)
  rw [HW1.out,HRE.out]
  go_wp2_with ((with_reducible refine z1l HX1.out ?_ ?_);rfl)
  refine hgd.mono ?_
  rintro e w2 ⟨rfl,hb2⟩
  have HB2:=hid (HB1.out.trans (hb2.mono HB1.out.size))
  have HX2:=hid (HX1.out.later hb2)
  have hby2:=hby w2 hb2
  clear hb2 hgd hby
  go_wp2_with ((with_reducible refine z1l HX2.out ?_ ?_);rfl)
  refine hby2.mono ?_
  rintro e w3 ⟨v,rfl,hrow,hb3,_⟩
  obtain⟨p3,c3,hv,_,_,_⟩:=hrow.sl
  subst hv
  have HB3:=hid (HB2.out.trans (hb3.mono HB2.out.size))
  clear hrow hb3 hby2
  go_wp2_with fail
  go_ret
  exact⟨by rw [HG.out];rfl,HB3.out⟩
end Go.Proofs.YtclbkfpbdidaiaaGreatDoor
namespace Go.Proofs.YtclbkfpbdidaiaaGreatDoor
open Go.Lib (hid)
set_option maxHeartbeats 8000000
open Go.RowKit Go.ChangeShapes Go.WideShapes Go.Deep
set_option linter.unusedVariables false
set_option maxRecDepth 10000
set_option linter.unusedSimpArgs false
section
variable {H:Type} {enc:TypeId × Value→H} {w:World} {base:Nat} {held:Bool}
theorem prog_trod {fuel:Nat} {v0 v1 v2 v3 v4 v5 v6 v7 v8 v9:Value} {d:DataW H × List MemPlace} (hf:DataW.trod enc Tryz.prog w base (fun _=>true) held fuel 26 [v0,v1,v2,v3,v4,v5,v6,v7,v8,v9]=some d):∃ (k od po:Int) (lp:Option Addr) (ln lcp:Nat) (tp:Option Addr) (tn tcp:Nat) (wp:Option Addr) (wn wcp:Nat) (sk fr to q:Int) (L:List Ln) (T:List Tk) (M:List Ln),[v0,v1,v2,v3,v4,v5,v6,v7,v8,v9]=[.int .u8 k,.int .u32 od,.int .u8 po,.slice lp ln lcp,.slice tp tn tcp,.slice wp wn wcp,.int .u8 sk,.int .u8 fr,.int .u8 to,.int .i64 q]∧Pgok ⟨k,od,po,L,T,M,sk,fr,to,q⟩∧PgM w lp ln lcp L tp tn tcp T wp wn wcp M:=by
 obtain⟨xs,n,_,_,hlen,hxl,hg⟩:=DataW.trod_struct Tryz.underlying26 hf
 have h10:xs.length=10:=hxl
 have t0:=hg 0 _ rfl
 have t1:=hg 1 _ rfl
 have t2:=hg 2 _ rfl
 have t3:=hg 3 _ rfl
 have t4:=hg 4 _ rfl
 have t5:=hg 5 _ rfl
 have t6:=hg 6 _ rfl
 have t7:=hg 7 _ rfl
 have t8:=hg 8 _ rfl
 have t9:=hg 9 _ rfl
 rw [List.getElem?_eq_getElem (by omega)] at t0 t1 t2 t3 t4 t5 t6 t7 t8 t9
 have e0:DataW.trod enc Tryz.prog w base (fun _=>true) held n 5 [v0]=some (xs[0]'(by omega)):=t0
 have e1:DataW.trod enc Tryz.prog w base (fun _=>true) held n 22 [v1]=some (xs[1]'(by omega)):=t1
 have e2:DataW.trod enc Tryz.prog w base (fun _=>true) held n 5 [v2]=some (xs[2]'(by omega)):=t2
 have e3:DataW.trod enc Tryz.prog w base (fun _=>true) held n 23 [v3]=some (xs[3]'(by omega)):=t3
 have e4:DataW.trod enc Tryz.prog w base (fun _=>true) held n 24 [v4]=some (xs[4]'(by omega)):=t4
 have e5:DataW.trod enc Tryz.prog w base (fun _=>true) held n 23 [v5]=some (xs[5]'(by omega)):=t5
 have e6:DataW.trod enc Tryz.prog w base (fun _=>true) held n 5 [v6]=some (xs[6]'(by omega)):=t6
 have e7:DataW.trod enc Tryz.prog w base (fun _=>true) held n 5 [v7]=some (xs[7]'(by omega)):=t7
 have e8:DataW.trod enc Tryz.prog w base (fun _=>true) held n 5 [v8]=some (xs[8]'(by omega)):=t8
 have e9:DataW.trod enc Tryz.prog w base (fun _=>true) held n 2 [v9]=some (xs[9]'(by omega)):=t9
 obtain⟨z0,hv0,_,wf0⟩:=DataW.trod_int Tryz.underlying5 e0
 obtain⟨z1,hv1,_,wf1⟩:=DataW.trod_int Tryz.underlying22 e1
 obtain⟨z2,hv2,_,wf2⟩:=DataW.trod_int Tryz.underlying5 e2
 obtain⟨z6,hv6,_,wf6⟩:=DataW.trod_int Tryz.underlying5 e6
 obtain⟨z7,hv7,_,wf7⟩:=DataW.trod_int Tryz.underlying5 e7
 obtain⟨z8,hv8,_,wf8⟩:=DataW.trod_int Tryz.underlying5 e8
 obtain⟨z9,hv9,_,wf9⟩:=DataW.trod_int Tryz.underlying2 e9
 simp at hv0 hv1 hv2 hv6 hv7 hv8 hv9
 subst hv0 hv1 hv2 hv6 hv7 hv8 hv9
 obtain⟨p3,n3,c3,rfl⟩:=slice_shape Tryz.underlying23 e3
 obtain⟨p4,n4,c4,rfl⟩:=slice_shape Tryz.underlying24 e4
 obtain⟨p5,n5,c5,rfl⟩:=slice_shape Tryz.underlying23 e5
 obtain⟨L,hL,hLok⟩:=open_lines e3
 obtain⟨T,hT,hTok⟩:=open_takes e4
 obtain⟨M,hM,hMok⟩:=open_lines e5
 exact⟨z0,z1,z2,p3,n3,c3,p4,n4,c4,p5,n5,c5,z6,z7,z8,z9,L,T,M,rfl,⟨bounds_u8 wf0,bounds32 wf1,bounds_u8 wf2,hLok,hTok,hMok,bounds_u8 wf6,bounds_u8 wf7,bounds_u8 wf8,bounds_i64 wf9⟩,⟨hL,hT,hM⟩⟩
end
theorem txnCells8:Tryz.prog.cellsOf 46=8:=by kernel_rfl
section
variable {H:Type} {enc:TypeId × Value→H} {w:World} {base:Nat} {held:Bool}
theorem txn_trod {fuel:Nat} {cs:List Value} {d:DataW H × List MemPlace} (h:DataW.trod enc Tryz.prog w base (fun _=>true) held fuel 46 cs=some d):∃ t:Tv,(TvM w t∧Tcok t.c)∧cs=tce t:=by
 obtain⟨xs,n,_,_,hlen,hxl,hg⟩:=DataW.trod_struct Tryz.underlying46 h
 rw [txnCells8] at hlen
 obtain⟨v0,v1,v2,v3,v4,v5,v6,v7,rfl⟩:∃ v0 v1 v2 v3 v4 v5 v6 v7,cs=[v0,v1,v2,v3,v4,v5,v6,v7]:=by
  match cs,hlen with
  | [a0,a1,a2,a3,a4,a5,a6,a7],_=>exact⟨a0,a1,a2,a3,a4,a5,a6,a7,rfl⟩
 have h8:xs.length=8:=hxl
 have t0:=hg 0 _ rfl
 have t1:=hg 1 _ rfl
 have t2:=hg 2 _ rfl
 have t3:=hg 3 _ rfl
 have t4:=hg 4 _ rfl
 have t5:=hg 5 _ rfl
 have t6:=hg 6 _ rfl
 have t7:=hg 7 _ rfl
 rw [List.getElem?_eq_getElem (by omega)] at t0 t1 t2 t3 t4 t5 t6 t7
 have e0:DataW.trod enc Tryz.prog w base (fun _=>true) held n 22 [v0]=some (xs[0]'(by omega)):=t0
 have e1:DataW.trod enc Tryz.prog w base (fun _=>true) held n 22 [v1]=some (xs[1]'(by omega)):=t1
 have e2:DataW.trod enc Tryz.prog w base (fun _=>true) held n 5 [v2]=some (xs[2]'(by omega)):=t2
 have e3:DataW.trod enc Tryz.prog w base (fun _=>true) held n 4 [v3]=some (xs[3]'(by omega)):=t3
 have e4:DataW.trod enc Tryz.prog w base (fun _=>true) held n 4 [v4]=some (xs[4]'(by omega)):=t4
 have e5:DataW.trod enc Tryz.prog w base (fun _=>true) held n 44 [v5]=some (xs[5]'(by omega)):=t5
 have e6:DataW.trod enc Tryz.prog w base (fun _=>true) held n 2 [v6]=some (xs[6]'(by omega)):=t6
 have e7:DataW.trod enc Tryz.prog w base (fun _=>true) held n 3 [v7]=some (xs[7]'(by omega)):=t7
 obtain⟨z0,hv0,_,wf0⟩:=DataW.trod_int Tryz.underlying22 e0
 obtain⟨z1,hv1,_,wf1⟩:=DataW.trod_int Tryz.underlying22 e1
 obtain⟨z2,hv2,_,wf2⟩:=DataW.trod_int Tryz.underlying5 e2
 obtain⟨z6,hv6,_,wf6⟩:=DataW.trod_int Tryz.underlying2 e6
 obtain⟨z7,hv7,_,wf7⟩:=DataW.trod_int Tryz.underlying3 e7
 obtain⟨z3,hv3,_⟩:=DataW.trod_bool Tryz.underlying4 e3
 obtain⟨z4,hv4,_⟩:=DataW.trod_bool Tryz.underlying4 e4
 simp at hv0 hv1 hv2 hv3 hv4 hv6 hv7
 subst hv0 hv1 hv2 hv3 hv4 hv6 hv7
 obtain⟨p5,n5,c5,rfl⟩:=slice_shape Tryz.underlying44 e5
 obtain⟨L,hL,hLok⟩:=open_ops e5
 exact⟨⟨⟨z0,z1,z2,z3,z4,L,z6,z7⟩,p5,n5,c5⟩,⟨hL,⟨bounds32 wf0,bounds32 wf1,bounds_u8 wf2,hLok,bounds_i64 wf6,bounds_i64 wf7⟩⟩,rfl⟩
end
theorem crsCells15:Tryz.prog.cellsOf 34=15:=by kernel_rfl
def CrsIn (w:World) (a:Array Value):Prop:=∃ (c:Cv) (L:List Ln) (T:List Tk) (M:List Ln),a=ccs c∧Crok (c.x L T M)∧CvM w c L T M
def TxnIn (w:World) (a:Array Value):Prop:=∃ t:Tv,a=#[.int .u32 t.c.id,.int .u32 t.c.sg,.int .u8 t.c.st,.bool t.c.cp,.bool t.c.dd,.slice t.p t.n t.m,.int .i64 t.c.fs,.int .i64 t.c.sz]∧Tcok t.c∧TvM w t
theorem crs_trod {H:Type} {enc:TypeId × Value→H} {w:World} {base:Nat} {held:Bool} {fuel:Nat} {cs:List Value} {d:DataW H × List MemPlace} (hf:DataW.trod enc Tryz.prog w base (fun _=>true) held fuel 34 cs=some d):∃ (c:Cv) (L:List Ln) (T:List Tk) (M:List Ln),cs=(ccs c).toList∧Crok (c.x L T M)∧CvM w c L T M:=by
 obtain⟨xs,n,_,_,hlen,hxl,hg⟩:=DataW.trod_struct Tryz.underlying34 hf
 rw [crsCells15] at hlen
 have h6:xs.length=6:=hxl
 obtain⟨v0,v1,v2,v3,v4,v5,v6,v7,v8,v9,v10,v11,v12,v13,v14,rfl⟩:∃ v0 v1 v2 v3 v4 v5 v6 v7 v8 v9 v10 v11 v12 v13 v14,cs=[v0,v1,v2,v3,v4,v5,v6,v7,v8,v9,v10,v11,v12,v13,v14]:=by
  match cs,hlen with
  | [a0,a1,a2,a3,a4,a5,a6,a7,a8,a9,a10,a11,a12,a13,a14],_=>exact⟨a0,a1,a2,a3,a4,a5,a6,a7,a8,a9,a10,a11,a12,a13,a14,rfl⟩
 have t0:=hg 0 _ rfl
 have t1:=hg 1 _ rfl
 have t2:=hg 2 _ rfl
 have t3:=hg 3 _ rfl
 have t4:=hg 4 _ rfl
 have t5:=hg 5 _ rfl
 rw [List.getElem?_eq_getElem (by omega)] at t0 t1 t2 t3 t4 t5
 have e0:DataW.trod enc Tryz.prog w base (fun _=>true) held n 22 [v0]=some (xs[0]'(by omega)):=t0
 have e1:DataW.trod enc Tryz.prog w base (fun _=>true) held n 26 [v1,v2,v3,v4,v5,v6,v7,v8,v9,v10]=some (xs[1]'(by omega)):=t1
 have e2:DataW.trod enc Tryz.prog w base (fun _=>true) held n 4 [v11]=some (xs[2]'(by omega)):=t2
 have e3:DataW.trod enc Tryz.prog w base (fun _=>true) held n 3 [v12]=some (xs[3]'(by omega)):=t3
 have e4:DataW.trod enc Tryz.prog w base (fun _=>true) held n 3 [v13]=some (xs[4]'(by omega)):=t4
 have e5:DataW.trod enc Tryz.prog w base (fun _=>true) held n 22 [v14]=some (xs[5]'(by omega)):=t5
 obtain⟨z0,hv0,_,wf0⟩:=DataW.trod_int Tryz.underlying22 e0
 obtain⟨z2,hv2,_⟩:=DataW.trod_bool Tryz.underlying4 e2
 obtain⟨z3,hv3,_,wf3⟩:=DataW.trod_int Tryz.underlying3 e3
 obtain⟨z4,hv4,_,wf4⟩:=DataW.trod_int Tryz.underlying3 e4
 obtain⟨z5,hv5,_,wf5⟩:=DataW.trod_int Tryz.underlying22 e5
 obtain⟨k,od,po,lp,ln,lcp,tp,tn,tcp,wp,wn,wcp,sk,fr,to,q,L,T,M,hpe,hpok,hpm⟩:=prog_trod e1
 simp at hv0 hv2 hv3 hv4 hv5
 simp only [List.cons.injEq,and_true] at hpe
 obtain⟨g0,g1,g2,g3,g4,g5,g6,g7,g8,g9⟩:=hpe
 subst hv0 hv2 hv3 hv4 hv5 g0 g1 g2 g3 g4 g5 g6 g7 g8 g9
 exact⟨⟨z0,⟨0,0,0,0,false,0,0,0,0,0,k,od,po,lp,ln,lcp,tp,tn,tcp,wp,wn,wcp,sk,fr,to,q⟩,z2,z3,z4,z5⟩,L,T,M,rfl,⟨bounds32 wf0,hpok,bounds_i64 wf3,bounds_i64 wf4,bounds32 wf5⟩,hpm⟩
theorem open_crs {H:Type} {enc:TypeId × Value→H} {w:World} {base b0:Nat} {held:Bool} {r:Reach} {v:Value} {d:DataW H} {p:List MemPlace}
 (hv:Value.okWide Tryz.prog w r b0 34 v) (h:DataW.Trod enc Tryz.prog w base (fun _=>true) held 34 v d p):∃ c,v=.agg c∧CrsIn w c:=by
 obtain⟨c,rfl,hsz⟩:=okWide_struct Tryz.underlying34 hv
 obtain⟨fuel,hf⟩:=h
 obtain⟨r,L,T,M,hcs,hok,hm⟩:=crs_trod hf
 exact⟨c,rfl,r,L,T,M,Array.ext' hcs,hok,hm⟩
theorem open_txn {H:Type} {enc:TypeId × Value→H} {w:World} {base b0:Nat} {held:Bool} {r:Reach} {v:Value} {d:DataW H} {p:List MemPlace}
 (hv:Value.okWide Tryz.prog w r b0 46 v) (h:DataW.Trod enc Tryz.prog w base (fun _=>true) held 46 v d p):∃ c,v=.agg c∧TxnIn w c:=by
 obtain⟨c,rfl,hsz⟩:=okWide_struct Tryz.underlying46 hv
 obtain⟨fuel,hf⟩:=h
 obtain⟨t,⟨hm,hok⟩,hcs⟩:=txn_trod hf
 exact⟨c,rfl,t,Array.ext' hcs,hok,hm⟩
end Go.Proofs.YtclbkfpbdidaiaaGreatDoor
namespace Go.Proofs.YtclbkfpbdidaiaaGreatDoor
open Go.Lib (hid)
set_option maxHeartbeats 8000000
open Go.RowKit Go.ChangeShapes Go.WideShapes
set_option linter.unusedVariables false
set_option linter.unusedSimpArgs false
set_option maxRecDepth 10000
theorem cr_rgood (c:Cv) (L:List Ln) (T:List Tk) (M:List Ln) (W:World) (hP:CvM W c L T M) (hok:Crok (c.x L T M)) (h1:c.p.ln≤400∧c.p.tn≤400∧c.p.wn≤400):Calls Tryz.prog 52 #[.agg (ccs c)] W fun e w'=>e=.returned (.bool (goodC (c.x L T M)))∧Below W.heap.size W w':=by
 obtain⟨W1,hW1,hx,hb1⟩:∃ W1,W.alloc (.cells (ccs c) 34)=W1∧CB W1 W.heap.size c∧Below W.heap.size W W1:=⟨_,rfl,CB.new W c,(Below.refl _ _).alloc (Nat.le_refl _) _⟩
 obtain⟨B,hB⟩:∃ B,W.heap.size=B:=⟨_,rfl⟩
 rw [hB] at hx
 have HX:=hid hx
 have HW1:=hid hW1
 have HB1:=hid hb1
 have HRE:=hid hB
 have HG:Hid (∀ w',Below W1.heap.size W1 w'→Calls Tryz.prog 8 #[.int .i64 4,.int .i64 4,.agg (pcs c.p)] w' fun e w''=>e=.returned (.bool (z0p 4 4 (c.p.pg L T M)))∧Below w'.heap.size w' w''):=hid fun w' hb=>rgood_p 4 4 c.p.pk c.p.od c.p.po c.p.lp c.p.ln c.p.lcp c.p.tp c.p.tn c.p.tcp c.p.wp c.p.wn c.p.wcp c.p.sk c.p.fr c.p.to c.p.q L T M w' ((hP.later hb1).later hb) hok.P ⟨by omega,by omega,by omega⟩
 have HS:Hid (∀ w',Below W1.heap.size W1 w'→Calls Tryz.prog 13 #[.agg (pcs c.p)] w' (GivesS w' (z0o (c.p.pg L T M)))):=hid fun w' hb=>rsteps_p c.p.pk c.p.od c.p.po c.p.lp c.p.ln c.p.lcp c.p.tp c.p.tn c.p.tcp c.p.wp c.p.wn c.p.wcp c.p.sk c.p.fr c.p.to c.p.q L T M w' ((hP.later hb1).later hb) hok.P ⟨by omega,by omega,by omega⟩
 have HGC:Hid (goodC (c.x L T M)=((c.sg != 0) && z0p 4 4 (c.p.pg L T M) && decide (0≤c.st) && decide (c.st≤((z0o (c.p.pg L T M)).length:Int)) && decide (0≤c.tr))):=hid rfl
 obtain⟨g,hg⟩:∃ g,z0p 4 4 (c.p.pg L T M)=g:=⟨_,rfl⟩
 obtain⟨S,hS⟩:∃ S,z0o (c.p.pg L T M)=S:=⟨_,rfl⟩
 rw [hg] at HG HGC
 rw [hS] at HS HGC
 generalize goodC (c.x L T M)=G at *
 clear hW1 hx hb1 hB hg hS hP hok h1
 cases q1:(c.sg != 0)
 case false =>
  go_enter Tryz.func52,Tryz.ntmps52
  go_upto_region 1 with (fail)
  rw [HW1.out,HRE.out]
  have hbd:Below W1.heap.size W1 W1.drew:=(Below.refl _ _).drew
  refine wp_region_held_drew (S:=fun w'=>Hid (Below W1.heap.size W1 w')) (by kernel_rfl) (hid hbd) (fun hHeld=>?_)
  clear hbd
  generalize W1.drew=Wd at *
  refine wpAnyH_take (i:=0) (oi:=⟨some 3,_,_,_,_,_⟩) (v:=.pointer (some ⟨B,0,none⟩)) rfl (by kernel_rfl) (by kernel_rfl) (by kernel_rfl) (fun _ _ _ h=>h) (Or.inl ⟨by rfl,fun w' hw'=>?_⟩) (by assumption) ?_
  · clear hHeld
    go_simp
  try simp only [Act.put,sIB,sCZ,sCS]
  refine wpAnyH_take (i:=1) (oi:=⟨some 4,_,_,_,_,_⟩) (v:=.int .u32 c.sg) rfl (by kernel_rfl) (by kernel_rfl) (by kernel_rfl) (fun _ _ _ h=>h) (Or.inl ⟨by rfl,fun w' hw'=>?_⟩) (by assumption) ?_
  · have hcx:=(HX.out.later hw'.out).at.1
    clear hHeld hw'
    go_simp
  try simp only [Act.put,sIB,sCZ,sCS]
  refine wpAnyH_take (i:=2) (oi:=⟨some 5,_,_,_,_,_⟩) (v:=.bool false) rfl (by kernel_rfl) (by kernel_rfl) (by kernel_rfl) (fun _ _ _ h=>h) (Or.inl ⟨by rfl,fun w' hw'=>?_⟩) (by assumption) ?_
  · clear hHeld
    go_simp
  try simp only [Act.put,sIB,sCZ,sCS]
  refine wpAnyH_take (i:=3) (oi:=⟨some 6,_,_,_,_,_⟩) (v:=.bool false) rfl (by kernel_rfl) (by kernel_rfl) (by kernel_rfl) (fun _ _ _ h=>h) (Or.inl ⟨by rfl,fun w' hw'=>?_⟩) (by assumption) ?_
  · clear hHeld
    go_simp
  try simp only [Act.put,sIB,sCZ,sCS]
  refine wpAnyH_take (i:=4) (oi:=⟨some 7,_,_,_,_,_⟩) (v:=undef) rfl (by kernel_rfl) (by kernel_rfl) (by kernel_rfl) (fun _ _ _ h=>h) (Or.inr ⟨by rfl,rfl⟩) (by assumption) ?_
  try simp only [Act.put,sIB,sCZ,sCS]
  refine wpAnyH_take (i:=5) (oi:=⟨some 8,_,_,_,_,_⟩) (v:=undef) rfl (by kernel_rfl) (by kernel_rfl) (by kernel_rfl) (fun _ _ _ h=>h) (Or.inr ⟨by rfl,rfl⟩) (by assumption) ?_
  try simp only [Act.put,sIB,sCZ,sCS]
  refine wpAnyH_take (i:=6) (oi:=⟨some 9,_,_,_,_,_⟩) (v:=undef) rfl (by kernel_rfl) (by kernel_rfl) (by kernel_rfl) (fun _ _ _ h=>h) (Or.inr ⟨by rfl,rfl⟩) (by assumption) ?_
  try simp only [Act.put,sIB,sCZ,sCS]
  refine wpAnyH_take (i:=7) (oi:=⟨some 10,_,_,_,_,_⟩) (v:=.bool false) rfl (by kernel_rfl) (by kernel_rfl) (by kernel_rfl) (fun _ _ _ h=>h) (Or.inl ⟨by rfl,fun w' hw'=>?_⟩) (by assumption) ?_
  · clear hHeld
    go_simp
  try simp only [Act.put,sIB,sCZ,sCS]
  refine wpAnyH_take (i:=8) (oi:=⟨some 11,_,_,_,_,_⟩) (v:=.bool false) rfl (by kernel_rfl) (by kernel_rfl) (by kernel_rfl) (fun _ _ _ h=>h) (Or.inl ⟨by rfl,fun w' hw'=>?_⟩) (by assumption) ?_
  · clear hHeld
    go_simp
  try simp only [Act.put,sIB,sCZ,sCS]
  refine wpAnyH_take (i:=9) (oi:=⟨some 12,_,_,_,_,_⟩) (v:=undef) rfl (by kernel_rfl) (by kernel_rfl) (by kernel_rfl) (fun _ _ _ h=>h) (Or.inr ⟨by rfl,rfl⟩) (by assumption) ?_
  try simp only [Act.put,sIB,sCZ,sCS]
  refine wpAnyH_take (i:=10) (oi:=⟨some 13,_,_,_,_,_⟩) (v:=undef) rfl (by kernel_rfl) (by kernel_rfl) (by kernel_rfl) (fun _ _ _ h=>h) (Or.inr ⟨by rfl,rfl⟩) (by assumption) ?_
  try simp only [Act.put,sIB,sCZ,sCS]
  refine wpAnyH_take (i:=11) (oi:=⟨some 14,_,_,_,_,_⟩) (v:=undef) rfl (by kernel_rfl) (by kernel_rfl) (by kernel_rfl) (fun _ _ _ h=>h) (Or.inr ⟨by rfl,rfl⟩) (by assumption) ?_
  try simp only [Act.put,sIB,sCZ,sCS]
  refine wpAnyH_take (i:=12) (oi:=⟨some 15,_,_,_,_,_⟩) (v:=.bool false) rfl (by kernel_rfl) (by kernel_rfl) (by kernel_rfl) (fun _ _ _ h=>h) (Or.inl ⟨by rfl,fun w' hw'=>?_⟩) (by assumption) ?_
  · clear hHeld
    go_simp
  try simp only [Act.put,sIB,sCZ,sCS]
  refine wpAnyH_take (i:=13) (oi:=⟨some 16,_,_,_,_,_⟩) (v:=.bool false) rfl (by kernel_rfl) (by kernel_rfl) (by kernel_rfl) (fun _ _ _ h=>h) (Or.inl ⟨by rfl,fun w' hw'=>?_⟩) (by assumption) ?_
  · clear hHeld
    go_simp
  try simp only [Act.put,sIB,sCZ,sCS]
  refine wpAnyH_take (i:=14) (oi:=⟨some 17,_,_,_,_,_⟩) (v:=undef) rfl (by kernel_rfl) (by kernel_rfl) (by kernel_rfl) (fun _ _ _ h=>h) (Or.inr ⟨by rfl,rfl⟩) (by assumption) ?_
  try simp only [Act.put,sIB,sCZ,sCS]
  refine wpAnyH_take (i:=15) (oi:=⟨some 18,_,_,_,_,_⟩) (v:=undef) rfl (by kernel_rfl) (by kernel_rfl) (by kernel_rfl) (fun _ _ _ h=>h) (Or.inr ⟨by rfl,rfl⟩) (by assumption) ?_
  try simp only [Act.put,sIB,sCZ,sCS]
  refine wpAnyH_take (i:=16) (oi:=⟨some 19,_,_,_,_,_⟩) (v:=undef) rfl (by kernel_rfl) (by kernel_rfl) (by kernel_rfl) (fun _ _ _ h=>h) (Or.inr ⟨by rfl,rfl⟩) (by assumption) ?_
  try simp only [Act.put,sIB,sCZ,sCS]
  refine wpAnyH_take (i:=17) (oi:=⟨some 20,_,_,_,_,_⟩) (v:=undef) rfl (by kernel_rfl) (by kernel_rfl) (by kernel_rfl) (fun _ _ _ h=>h) (Or.inr ⟨by rfl,rfl⟩) (by assumption) ?_
  try simp only [Act.put,sIB,sCZ,sCS]
  refine wpAnyH_take (i:=18) (oi:=⟨some 21,_,_,_,_,_⟩) (v:=undef) rfl (by kernel_rfl) (by kernel_rfl) (by kernel_rfl) (fun _ _ _ h=>h) (Or.inr ⟨by rfl,rfl⟩) (by assumption) ?_
  try simp only [Act.put,sIB,sCZ,sCS]
  refine wpAnyH_take (i:=19) (oi:=⟨some 22,_,_,_,_,_⟩) (v:=undef) rfl (by kernel_rfl) (by kernel_rfl) (by kernel_rfl) (fun _ _ _ h=>h) (Or.inr ⟨by rfl,rfl⟩) (by assumption) ?_
  try simp only [Act.put,sIB,sCZ,sCS]
  refine wpAnyH_take (i:=20) (oi:=⟨some 23,_,_,_,_,_⟩) (v:=undef) rfl (by kernel_rfl) (by kernel_rfl) (by kernel_rfl) (fun _ _ _ h=>h) (Or.inr ⟨by rfl,rfl⟩) (by assumption) ?_
  try simp only [Act.put,sIB,sCZ,sCS]
  refine wpAnyH_take (i:=21) (oi:=⟨some 24,_,_,_,_,_⟩) (v:=.bool false) rfl (by kernel_rfl) (by kernel_rfl) (by kernel_rfl) (fun _ _ _ h=>h) (Or.inl ⟨by rfl,fun w' hw'=>?_⟩) (by assumption) ?_
  · clear hHeld
    go_simp
  try simp only [Act.put,sIB,sCZ,sCS]
  refine wpAnyH_take (i:=22) (oi:=⟨some 25,_,_,_,_,_⟩) (v:=.bool false) rfl (by kernel_rfl) (by kernel_rfl) (by kernel_rfl) (fun _ _ _ h=>h) (Or.inl ⟨by rfl,fun w' hw'=>?_⟩) (by assumption) ?_
  · clear hHeld
    go_simp
  try simp only [Act.put,sIB,sCZ,sCS]
  refine wpAnyH_take (i:=23) (oi:=⟨some 26,_,_,_,_,_⟩) (v:=undef) rfl (by kernel_rfl) (by kernel_rfl) (by kernel_rfl) (fun _ _ _ h=>h) (Or.inr ⟨by rfl,rfl⟩) (by assumption) ?_
  try simp only [Act.put,sIB,sCZ,sCS]
  refine wpAnyH_take (i:=24) (oi:=⟨some 27,_,_,_,_,_⟩) (v:=undef) rfl (by kernel_rfl) (by kernel_rfl) (by kernel_rfl) (fun _ _ _ h=>h) (Or.inr ⟨by rfl,rfl⟩) (by assumption) ?_
  try simp only [Act.put,sIB,sCZ,sCS]
  refine wpAnyH_take (i:=25) (oi:=⟨some 28,_,_,_,_,_⟩) (v:=undef) rfl (by kernel_rfl) (by kernel_rfl) (by kernel_rfl) (fun _ _ _ h=>h) (Or.inr ⟨by rfl,rfl⟩) (by assumption) ?_
  try simp only [Act.put,sIB,sCZ,sCS]
  refine wpAnyH_take (i:=26) (oi:=⟨some 29,_,_,_,_,_⟩) (v:=.bool false) rfl (by kernel_rfl) (by kernel_rfl) (by kernel_rfl) (fun _ _ _ h=>h) (Or.inl ⟨by rfl,fun w' hw'=>?_⟩) (by assumption) ?_
  · clear hHeld
    go_simp
  try simp only [Act.put,sIB,sCZ,sCS]
  refine wpAnyH_take (i:=27) (oi:=⟨some 2,_,_,_,_,_⟩) (v:=.bool false) rfl (by kernel_rfl) (by kernel_rfl) (by kernel_rfl) (fun _ _ _ h=>h) (Or.inl ⟨by rfl,fun w' hw'=>?_⟩) (by assumption) ?_
  · clear hHeld
    go_simp
  try simp only [Act.put,sIB,sCZ,sCS]
  have hfin:=hHeld.out
  refine wpAnyH_done (by kernel_rfl) ?_ _
  clear hHeld
  go_wp2_with fail
  go_ret
  refine⟨?_,HB1.out.trans (hfin.mono HB1.out.size)⟩
  rw [HGC.out]
  first | (simp [*];done) | (rw [decide_eq_false (show ¬ 0≤c.st by omega)];simp;done) | (rw [decide_eq_false (show ¬ c.st≤(S.length:Int) by omega)];simp;done)
 cases g
 case false =>
  go_enter Tryz.func52,Tryz.ntmps52
  go_upto_region 1 with (fail)
  rw [HW1.out,HRE.out]
  have hbd:Below W1.heap.size W1 W1.drew:=(Below.refl _ _).drew
  refine wp_region_held_drew (S:=fun w'=>Hid (Below W1.heap.size W1 w')) (by kernel_rfl) (hid hbd) (fun hHeld=>?_)
  clear hbd
  generalize W1.drew=Wd at *
  refine wpAnyH_take (i:=0) (oi:=⟨some 3,_,_,_,_,_⟩) (v:=.pointer (some ⟨B,0,none⟩)) rfl (by kernel_rfl) (by kernel_rfl) (by kernel_rfl) (fun _ _ _ h=>h) (Or.inl ⟨by rfl,fun w' hw'=>?_⟩) (by assumption) ?_
  · clear hHeld
    go_simp
  try simp only [Act.put,sIB,sCZ,sCS]
  refine wpAnyH_take (i:=1) (oi:=⟨some 4,_,_,_,_,_⟩) (v:=.int .u32 c.sg) rfl (by kernel_rfl) (by kernel_rfl) (by kernel_rfl) (fun _ _ _ h=>h) (Or.inl ⟨by rfl,fun w' hw'=>?_⟩) (by assumption) ?_
  · have hcx:=(HX.out.later hw'.out).at.1
    clear hHeld hw'
    go_simp
  try simp only [Act.put,sIB,sCZ,sCS]
  refine wpAnyH_take (i:=2) (oi:=⟨some 5,_,_,_,_,_⟩) (v:=.bool true) rfl (by kernel_rfl) (by kernel_rfl) (by kernel_rfl) (fun _ _ _ h=>h) (Or.inl ⟨by rfl,fun w' hw'=>?_⟩) (by assumption) ?_
  · clear hHeld
    go_simp
  try simp only [Act.put,sIB,sCZ,sCS]
  refine wpAnyH_take (i:=3) (oi:=⟨some 6,_,_,_,_,_⟩) (v:=.bool true) rfl (by kernel_rfl) (by kernel_rfl) (by kernel_rfl) (fun _ _ _ h=>h) (Or.inl ⟨by rfl,fun w' hw'=>?_⟩) (by assumption) ?_
  · clear hHeld
    go_simp
  try simp only [Act.put,sIB,sCZ,sCS]
  refine wpAnyH_take (i:=4) (oi:=⟨some 7,_,_,_,_,_⟩) (v:=.pointer (some ⟨B,1,none⟩)) rfl (by kernel_rfl) (by kernel_rfl) (by kernel_rfl) (fun _ _ _ h=>h) (Or.inl ⟨by rfl,fun w' hw'=>?_⟩) (by assumption) ?_
  · clear hHeld
    go_simp
  try simp only [Act.put,sIB,sCZ,sCS]
  refine wpAnyH_take (i:=5) (oi:=⟨some 8,_,_,_,_,_⟩) (v:=.agg (pcs c.p)) rfl (by kernel_rfl) (by kernel_rfl) (by kernel_rfl) (fun _ _ _ h=>h) (Or.inl ⟨by rfl,fun w' hw'=>z1o rfl (HX.out.later (Hid.out hw'))⟩) (by assumption) ?_
  try simp only [Act.put,sIB,sCZ,sCS]
  refine wpAnyH_ready (rs:=[6]) (by kernel_rfl) (by simp) (AllReadyH.cons rfl (fun K hK=>?_) (AllReadyH.nil))
  go_simp
  go_wp2_with fail
  refine (HG.out _ hHeld.out).mono ?_
  rintro e w2 ⟨rfl,hb2⟩
  have hSN:Hid (Below W1.heap.size W1 w2):=hid (hHeld.out.trans (hb2.mono hHeld.out.size))
  clear hb2
  go_wp2_with fail
  refine hK.out _ _ hSN (fun hHeld2=>?_)
  try simp only [Act.put,sIB,sCZ,sCS]
  clear hSN hK K hHeld
  have hHeld:=hHeld2
  clear hHeld2
  refine wpAnyH_take (i:=7) (oi:=⟨some 10,_,_,_,_,_⟩) (v:=.bool false) rfl (by kernel_rfl) (by kernel_rfl) (by kernel_rfl) (fun _ _ _ h=>h) (Or.inl ⟨by rfl,fun w' hw'=>?_⟩) (by assumption) ?_
  · clear hHeld
    go_simp
  try simp only [Act.put,sIB,sCZ,sCS]
  refine wpAnyH_take (i:=8) (oi:=⟨some 11,_,_,_,_,_⟩) (v:=.bool false) rfl (by kernel_rfl) (by kernel_rfl) (by kernel_rfl) (fun _ _ _ h=>h) (Or.inl ⟨by rfl,fun w' hw'=>?_⟩) (by assumption) ?_
  · clear hHeld
    go_simp
  try simp only [Act.put,sIB,sCZ,sCS]
  refine wpAnyH_take (i:=9) (oi:=⟨some 12,_,_,_,_,_⟩) (v:=undef) rfl (by kernel_rfl) (by kernel_rfl) (by kernel_rfl) (fun _ _ _ h=>h) (Or.inr ⟨by rfl,rfl⟩) (by assumption) ?_
  try simp only [Act.put,sIB,sCZ,sCS]
  refine wpAnyH_take (i:=10) (oi:=⟨some 13,_,_,_,_,_⟩) (v:=undef) rfl (by kernel_rfl) (by kernel_rfl) (by kernel_rfl) (fun _ _ _ h=>h) (Or.inr ⟨by rfl,rfl⟩) (by assumption) ?_
  try simp only [Act.put,sIB,sCZ,sCS]
  refine wpAnyH_take (i:=11) (oi:=⟨some 14,_,_,_,_,_⟩) (v:=undef) rfl (by kernel_rfl) (by kernel_rfl) (by kernel_rfl) (fun _ _ _ h=>h) (Or.inr ⟨by rfl,rfl⟩) (by assumption) ?_
  try simp only [Act.put,sIB,sCZ,sCS]
  refine wpAnyH_take (i:=12) (oi:=⟨some 15,_,_,_,_,_⟩) (v:=.bool false) rfl (by kernel_rfl) (by kernel_rfl) (by kernel_rfl) (fun _ _ _ h=>h) (Or.inl ⟨by rfl,fun w' hw'=>?_⟩) (by assumption) ?_
  · clear hHeld
    go_simp
  try simp only [Act.put,sIB,sCZ,sCS]
  refine wpAnyH_take (i:=13) (oi:=⟨some 16,_,_,_,_,_⟩) (v:=.bool false) rfl (by kernel_rfl) (by kernel_rfl) (by kernel_rfl) (fun _ _ _ h=>h) (Or.inl ⟨by rfl,fun w' hw'=>?_⟩) (by assumption) ?_
  · clear hHeld
    go_simp
  try simp only [Act.put,sIB,sCZ,sCS]
  refine wpAnyH_take (i:=14) (oi:=⟨some 17,_,_,_,_,_⟩) (v:=undef) rfl (by kernel_rfl) (by kernel_rfl) (by kernel_rfl) (fun _ _ _ h=>h) (Or.inr ⟨by rfl,rfl⟩) (by assumption) ?_
  try simp only [Act.put,sIB,sCZ,sCS]
  refine wpAnyH_take (i:=15) (oi:=⟨some 18,_,_,_,_,_⟩) (v:=undef) rfl (by kernel_rfl) (by kernel_rfl) (by kernel_rfl) (fun _ _ _ h=>h) (Or.inr ⟨by rfl,rfl⟩) (by assumption) ?_
  try simp only [Act.put,sIB,sCZ,sCS]
  refine wpAnyH_take (i:=16) (oi:=⟨some 19,_,_,_,_,_⟩) (v:=undef) rfl (by kernel_rfl) (by kernel_rfl) (by kernel_rfl) (fun _ _ _ h=>h) (Or.inr ⟨by rfl,rfl⟩) (by assumption) ?_
  try simp only [Act.put,sIB,sCZ,sCS]
  refine wpAnyH_take (i:=17) (oi:=⟨some 20,_,_,_,_,_⟩) (v:=undef) rfl (by kernel_rfl) (by kernel_rfl) (by kernel_rfl) (fun _ _ _ h=>h) (Or.inr ⟨by rfl,rfl⟩) (by assumption) ?_
  try simp only [Act.put,sIB,sCZ,sCS]
  refine wpAnyH_take (i:=18) (oi:=⟨some 21,_,_,_,_,_⟩) (v:=undef) rfl (by kernel_rfl) (by kernel_rfl) (by kernel_rfl) (fun _ _ _ h=>h) (Or.inr ⟨by rfl,rfl⟩) (by assumption) ?_
  try simp only [Act.put,sIB,sCZ,sCS]
  refine wpAnyH_take (i:=19) (oi:=⟨some 22,_,_,_,_,_⟩) (v:=undef) rfl (by kernel_rfl) (by kernel_rfl) (by kernel_rfl) (fun _ _ _ h=>h) (Or.inr ⟨by rfl,rfl⟩) (by assumption) ?_
  try simp only [Act.put,sIB,sCZ,sCS]
  refine wpAnyH_take (i:=20) (oi:=⟨some 23,_,_,_,_,_⟩) (v:=undef) rfl (by kernel_rfl) (by kernel_rfl) (by kernel_rfl) (fun _ _ _ h=>h) (Or.inr ⟨by rfl,rfl⟩) (by assumption) ?_
  try simp only [Act.put,sIB,sCZ,sCS]
  refine wpAnyH_take (i:=21) (oi:=⟨some 24,_,_,_,_,_⟩) (v:=.bool false) rfl (by kernel_rfl) (by kernel_rfl) (by kernel_rfl) (fun _ _ _ h=>h) (Or.inl ⟨by rfl,fun w' hw'=>?_⟩) (by assumption) ?_
  · clear hHeld
    go_simp
  try simp only [Act.put,sIB,sCZ,sCS]
  refine wpAnyH_take (i:=22) (oi:=⟨some 25,_,_,_,_,_⟩) (v:=.bool false) rfl (by kernel_rfl) (by kernel_rfl) (by kernel_rfl) (fun _ _ _ h=>h) (Or.inl ⟨by rfl,fun w' hw'=>?_⟩) (by assumption) ?_
  · clear hHeld
    go_simp
  try simp only [Act.put,sIB,sCZ,sCS]
  refine wpAnyH_take (i:=23) (oi:=⟨some 26,_,_,_,_,_⟩) (v:=undef) rfl (by kernel_rfl) (by kernel_rfl) (by kernel_rfl) (fun _ _ _ h=>h) (Or.inr ⟨by rfl,rfl⟩) (by assumption) ?_
  try simp only [Act.put,sIB,sCZ,sCS]
  refine wpAnyH_take (i:=24) (oi:=⟨some 27,_,_,_,_,_⟩) (v:=undef) rfl (by kernel_rfl) (by kernel_rfl) (by kernel_rfl) (fun _ _ _ h=>h) (Or.inr ⟨by rfl,rfl⟩) (by assumption) ?_
  try simp only [Act.put,sIB,sCZ,sCS]
  refine wpAnyH_take (i:=25) (oi:=⟨some 28,_,_,_,_,_⟩) (v:=undef) rfl (by kernel_rfl) (by kernel_rfl) (by kernel_rfl) (fun _ _ _ h=>h) (Or.inr ⟨by rfl,rfl⟩) (by assumption) ?_
  try simp only [Act.put,sIB,sCZ,sCS]
  refine wpAnyH_take (i:=26) (oi:=⟨some 29,_,_,_,_,_⟩) (v:=.bool false) rfl (by kernel_rfl) (by kernel_rfl) (by kernel_rfl) (fun _ _ _ h=>h) (Or.inl ⟨by rfl,fun w' hw'=>?_⟩) (by assumption) ?_
  · clear hHeld
    go_simp
  try simp only [Act.put,sIB,sCZ,sCS]
  refine wpAnyH_take (i:=27) (oi:=⟨some 2,_,_,_,_,_⟩) (v:=.bool false) rfl (by kernel_rfl) (by kernel_rfl) (by kernel_rfl) (fun _ _ _ h=>h) (Or.inl ⟨by rfl,fun w' hw'=>?_⟩) (by assumption) ?_
  · clear hHeld
    go_simp
  try simp only [Act.put,sIB,sCZ,sCS]
  have hfin:=hHeld.out
  refine wpAnyH_done (by kernel_rfl) ?_ _
  clear hHeld
  go_wp2_with fail
  go_ret
  refine⟨?_,HB1.out.trans (hfin.mono HB1.out.size)⟩
  rw [HGC.out]
  first | (simp [*];done) | (rw [decide_eq_false (show ¬ 0≤c.st by omega)];simp;done) | (rw [decide_eq_false (show ¬ c.st≤(S.length:Int) by omega)];simp;done)
 by_cases q3:0≤c.st
 case neg =>
  go_enter Tryz.func52,Tryz.ntmps52
  go_upto_region 1 with (fail)
  rw [HW1.out,HRE.out]
  have hbd:Below W1.heap.size W1 W1.drew:=(Below.refl _ _).drew
  refine wp_region_held_drew (S:=fun w'=>Hid (Below W1.heap.size W1 w')) (by kernel_rfl) (hid hbd) (fun hHeld=>?_)
  clear hbd
  generalize W1.drew=Wd at *
  refine wpAnyH_take (i:=0) (oi:=⟨some 3,_,_,_,_,_⟩) (v:=.pointer (some ⟨B,0,none⟩)) rfl (by kernel_rfl) (by kernel_rfl) (by kernel_rfl) (fun _ _ _ h=>h) (Or.inl ⟨by rfl,fun w' hw'=>?_⟩) (by assumption) ?_
  · clear hHeld
    go_simp
  try simp only [Act.put,sIB,sCZ,sCS]
  refine wpAnyH_take (i:=1) (oi:=⟨some 4,_,_,_,_,_⟩) (v:=.int .u32 c.sg) rfl (by kernel_rfl) (by kernel_rfl) (by kernel_rfl) (fun _ _ _ h=>h) (Or.inl ⟨by rfl,fun w' hw'=>?_⟩) (by assumption) ?_
  · have hcx:=(HX.out.later hw'.out).at.1
    clear hHeld hw'
    go_simp
  try simp only [Act.put,sIB,sCZ,sCS]
  refine wpAnyH_take (i:=2) (oi:=⟨some 5,_,_,_,_,_⟩) (v:=.bool true) rfl (by kernel_rfl) (by kernel_rfl) (by kernel_rfl) (fun _ _ _ h=>h) (Or.inl ⟨by rfl,fun w' hw'=>?_⟩) (by assumption) ?_
  · clear hHeld
    go_simp
  try simp only [Act.put,sIB,sCZ,sCS]
  refine wpAnyH_take (i:=3) (oi:=⟨some 6,_,_,_,_,_⟩) (v:=.bool true) rfl (by kernel_rfl) (by kernel_rfl) (by kernel_rfl) (fun _ _ _ h=>h) (Or.inl ⟨by rfl,fun w' hw'=>?_⟩) (by assumption) ?_
  · clear hHeld
    go_simp
  try simp only [Act.put,sIB,sCZ,sCS]
  refine wpAnyH_take (i:=4) (oi:=⟨some 7,_,_,_,_,_⟩) (v:=.pointer (some ⟨B,1,none⟩)) rfl (by kernel_rfl) (by kernel_rfl) (by kernel_rfl) (fun _ _ _ h=>h) (Or.inl ⟨by rfl,fun w' hw'=>?_⟩) (by assumption) ?_
  · clear hHeld
    go_simp
  try simp only [Act.put,sIB,sCZ,sCS]
  refine wpAnyH_take (i:=5) (oi:=⟨some 8,_,_,_,_,_⟩) (v:=.agg (pcs c.p)) rfl (by kernel_rfl) (by kernel_rfl) (by kernel_rfl) (fun _ _ _ h=>h) (Or.inl ⟨by rfl,fun w' hw'=>z1o rfl (HX.out.later (Hid.out hw'))⟩) (by assumption) ?_
  try simp only [Act.put,sIB,sCZ,sCS]
  refine wpAnyH_ready (rs:=[6]) (by kernel_rfl) (by simp) (AllReadyH.cons rfl (fun K hK=>?_) (AllReadyH.nil))
  go_simp
  go_wp2_with fail
  refine (HG.out _ hHeld.out).mono ?_
  rintro e w2 ⟨rfl,hb2⟩
  have hSN:Hid (Below W1.heap.size W1 w2):=hid (hHeld.out.trans (hb2.mono hHeld.out.size))
  clear hb2
  go_wp2_with fail
  refine hK.out _ _ hSN (fun hHeld2=>?_)
  try simp only [Act.put,sIB,sCZ,sCS]
  clear hSN hK K hHeld
  have hHeld:=hHeld2
  clear hHeld2
  refine wpAnyH_take (i:=7) (oi:=⟨some 10,_,_,_,_,_⟩) (v:=.bool true) rfl (by kernel_rfl) (by kernel_rfl) (by kernel_rfl) (fun _ _ _ h=>h) (Or.inl ⟨by rfl,fun w' hw'=>?_⟩) (by assumption) ?_
  · clear hHeld
    go_simp
  try simp only [Act.put,sIB,sCZ,sCS]
  refine wpAnyH_take (i:=8) (oi:=⟨some 11,_,_,_,_,_⟩) (v:=.bool true) rfl (by kernel_rfl) (by kernel_rfl) (by kernel_rfl) (fun _ _ _ h=>h) (Or.inl ⟨by rfl,fun w' hw'=>?_⟩) (by assumption) ?_
  · clear hHeld
    go_simp
  try simp only [Act.put,sIB,sCZ,sCS]
  refine wpAnyH_take (i:=9) (oi:=⟨some 12,_,_,_,_,_⟩) (v:=.pointer (some ⟨B,12,none⟩)) rfl (by kernel_rfl) (by kernel_rfl) (by kernel_rfl) (fun _ _ _ h=>h) (Or.inl ⟨by rfl,fun w' hw'=>?_⟩) (by assumption) ?_
  · clear hHeld
    go_simp
  try simp only [Act.put,sIB,sCZ,sCS]
  refine wpAnyH_take (i:=10) (oi:=⟨some 13,_,_,_,_,_⟩) (v:=.int .i64 c.st) rfl (by kernel_rfl) (by kernel_rfl) (by kernel_rfl) (fun _ _ _ h=>h) (Or.inl ⟨by rfl,fun w' hw'=>?_⟩) (by assumption) ?_
  · have hcx:=(HX.out.later hw'.out).at.2.2.1
    clear hHeld hw'
    go_simp
  try simp only [Act.put,sIB,sCZ,sCS]
  refine wpAnyH_take (i:=11) (oi:=⟨some 14,_,_,_,_,_⟩) (v:=.bool false) rfl (by kernel_rfl) (by kernel_rfl) (by kernel_rfl) (fun _ _ _ h=>h) (Or.inl ⟨by rfl,fun w' hw'=>?_⟩) (by assumption) ?_
  · clear hHeld
    go_simp
  try simp only [Act.put,sIB,sCZ,sCS]
  refine wpAnyH_take (i:=12) (oi:=⟨some 15,_,_,_,_,_⟩) (v:=.bool false) rfl (by kernel_rfl) (by kernel_rfl) (by kernel_rfl) (fun _ _ _ h=>h) (Or.inl ⟨by rfl,fun w' hw'=>?_⟩) (by assumption) ?_
  · clear hHeld
    go_simp
  try simp only [Act.put,sIB,sCZ,sCS]
  refine wpAnyH_take (i:=13) (oi:=⟨some 16,_,_,_,_,_⟩) (v:=.bool false) rfl (by kernel_rfl) (by kernel_rfl) (by kernel_rfl) (fun _ _ _ h=>h) (Or.inl ⟨by rfl,fun w' hw'=>?_⟩) (by assumption) ?_
  · clear hHeld
    go_simp
  try simp only [Act.put,sIB,sCZ,sCS]
  refine wpAnyH_take (i:=14) (oi:=⟨some 17,_,_,_,_,_⟩) (v:=undef) rfl (by kernel_rfl) (by kernel_rfl) (by kernel_rfl) (fun _ _ _ h=>h) (Or.inr ⟨by rfl,rfl⟩) (by assumption) ?_
  try simp only [Act.put,sIB,sCZ,sCS]
  refine wpAnyH_take (i:=15) (oi:=⟨some 18,_,_,_,_,_⟩) (v:=undef) rfl (by kernel_rfl) (by kernel_rfl) (by kernel_rfl) (fun _ _ _ h=>h) (Or.inr ⟨by rfl,rfl⟩) (by assumption) ?_
  try simp only [Act.put,sIB,sCZ,sCS]
  refine wpAnyH_take (i:=16) (oi:=⟨some 19,_,_,_,_,_⟩) (v:=undef) rfl (by kernel_rfl) (by kernel_rfl) (by kernel_rfl) (fun _ _ _ h=>h) (Or.inr ⟨by rfl,rfl⟩) (by assumption) ?_
  try simp only [Act.put,sIB,sCZ,sCS]
  refine wpAnyH_take (i:=17) (oi:=⟨some 20,_,_,_,_,_⟩) (v:=undef) rfl (by kernel_rfl) (by kernel_rfl) (by kernel_rfl) (fun _ _ _ h=>h) (Or.inr ⟨by rfl,rfl⟩) (by assumption) ?_
  try simp only [Act.put,sIB,sCZ,sCS]
  refine wpAnyH_take (i:=18) (oi:=⟨some 21,_,_,_,_,_⟩) (v:=undef) rfl (by kernel_rfl) (by kernel_rfl) (by kernel_rfl) (fun _ _ _ h=>h) (Or.inr ⟨by rfl,rfl⟩) (by assumption) ?_
  try simp only [Act.put,sIB,sCZ,sCS]
  refine wpAnyH_take (i:=19) (oi:=⟨some 22,_,_,_,_,_⟩) (v:=undef) rfl (by kernel_rfl) (by kernel_rfl) (by kernel_rfl) (fun _ _ _ h=>h) (Or.inr ⟨by rfl,rfl⟩) (by assumption) ?_
  try simp only [Act.put,sIB,sCZ,sCS]
  refine wpAnyH_take (i:=20) (oi:=⟨some 23,_,_,_,_,_⟩) (v:=undef) rfl (by kernel_rfl) (by kernel_rfl) (by kernel_rfl) (fun _ _ _ h=>h) (Or.inr ⟨by rfl,rfl⟩) (by assumption) ?_
  try simp only [Act.put,sIB,sCZ,sCS]
  refine wpAnyH_take (i:=21) (oi:=⟨some 24,_,_,_,_,_⟩) (v:=.bool false) rfl (by kernel_rfl) (by kernel_rfl) (by kernel_rfl) (fun _ _ _ h=>h) (Or.inl ⟨by rfl,fun w' hw'=>?_⟩) (by assumption) ?_
  · clear hHeld
    go_simp
  try simp only [Act.put,sIB,sCZ,sCS]
  refine wpAnyH_take (i:=22) (oi:=⟨some 25,_,_,_,_,_⟩) (v:=.bool false) rfl (by kernel_rfl) (by kernel_rfl) (by kernel_rfl) (fun _ _ _ h=>h) (Or.inl ⟨by rfl,fun w' hw'=>?_⟩) (by assumption) ?_
  · clear hHeld
    go_simp
  try simp only [Act.put,sIB,sCZ,sCS]
  refine wpAnyH_take (i:=23) (oi:=⟨some 26,_,_,_,_,_⟩) (v:=undef) rfl (by kernel_rfl) (by kernel_rfl) (by kernel_rfl) (fun _ _ _ h=>h) (Or.inr ⟨by rfl,rfl⟩) (by assumption) ?_
  try simp only [Act.put,sIB,sCZ,sCS]
  refine wpAnyH_take (i:=24) (oi:=⟨some 27,_,_,_,_,_⟩) (v:=undef) rfl (by kernel_rfl) (by kernel_rfl) (by kernel_rfl) (fun _ _ _ h=>h) (Or.inr ⟨by rfl,rfl⟩) (by assumption) ?_
  try simp only [Act.put,sIB,sCZ,sCS]
  refine wpAnyH_take (i:=25) (oi:=⟨some 28,_,_,_,_,_⟩) (v:=undef) rfl (by kernel_rfl) (by kernel_rfl) (by kernel_rfl) (fun _ _ _ h=>h) (Or.inr ⟨by rfl,rfl⟩) (by assumption) ?_
  try simp only [Act.put,sIB,sCZ,sCS]
  refine wpAnyH_take (i:=26) (oi:=⟨some 29,_,_,_,_,_⟩) (v:=.bool false) rfl (by kernel_rfl) (by kernel_rfl) (by kernel_rfl) (fun _ _ _ h=>h) (Or.inl ⟨by rfl,fun w' hw'=>?_⟩) (by assumption) ?_
  · clear hHeld
    go_simp
  try simp only [Act.put,sIB,sCZ,sCS]
  refine wpAnyH_take (i:=27) (oi:=⟨some 2,_,_,_,_,_⟩) (v:=.bool false) rfl (by kernel_rfl) (by kernel_rfl) (by kernel_rfl) (fun _ _ _ h=>h) (Or.inl ⟨by rfl,fun w' hw'=>?_⟩) (by assumption) ?_
  · clear hHeld
    go_simp
  try simp only [Act.put,sIB,sCZ,sCS]
  have hfin:=hHeld.out
  refine wpAnyH_done (by kernel_rfl) ?_ _
  clear hHeld
  go_wp2_with fail
  go_ret
  refine⟨?_,HB1.out.trans (hfin.mono HB1.out.size)⟩
  rw [HGC.out]
  first | (simp [*];done) | (rw [decide_eq_false (show ¬ 0≤c.st by omega)];simp;done) | (rw [decide_eq_false (show ¬ c.st≤(S.length:Int) by omega)];simp;done)
 by_cases q4:c.st≤(S.length:Int)
 case neg =>
  go_enter Tryz.func52,Tryz.ntmps52
  go_upto_region 1 with (fail)
  rw [HW1.out,HRE.out]
  have hbd:Below W1.heap.size W1 W1.drew:=(Below.refl _ _).drew
  refine wp_region_held_drew (S:=fun w'=>Hid (Below W1.heap.size W1 w')) (by kernel_rfl) (hid hbd) (fun hHeld=>?_)
  clear hbd
  generalize W1.drew=Wd at *
  refine wpAnyH_take (i:=0) (oi:=⟨some 3,_,_,_,_,_⟩) (v:=.pointer (some ⟨B,0,none⟩)) rfl (by kernel_rfl) (by kernel_rfl) (by kernel_rfl) (fun _ _ _ h=>h) (Or.inl ⟨by rfl,fun w' hw'=>?_⟩) (by assumption) ?_
  · clear hHeld
    go_simp
  try simp only [Act.put,sIB,sCZ,sCS]
  refine wpAnyH_take (i:=1) (oi:=⟨some 4,_,_,_,_,_⟩) (v:=.int .u32 c.sg) rfl (by kernel_rfl) (by kernel_rfl) (by kernel_rfl) (fun _ _ _ h=>h) (Or.inl ⟨by rfl,fun w' hw'=>?_⟩) (by assumption) ?_
  · have hcx:=(HX.out.later hw'.out).at.1
    clear hHeld hw'
    go_simp
  try simp only [Act.put,sIB,sCZ,sCS]
  refine wpAnyH_take (i:=2) (oi:=⟨some 5,_,_,_,_,_⟩) (v:=.bool true) rfl (by kernel_rfl) (by kernel_rfl) (by kernel_rfl) (fun _ _ _ h=>h) (Or.inl ⟨by rfl,fun w' hw'=>?_⟩) (by assumption) ?_
  · clear hHeld
    go_simp
  try simp only [Act.put,sIB,sCZ,sCS]
  refine wpAnyH_take (i:=3) (oi:=⟨some 6,_,_,_,_,_⟩) (v:=.bool true) rfl (by kernel_rfl) (by kernel_rfl) (by kernel_rfl) (fun _ _ _ h=>h) (Or.inl ⟨by rfl,fun w' hw'=>?_⟩) (by assumption) ?_
  · clear hHeld
    go_simp
  try simp only [Act.put,sIB,sCZ,sCS]
  refine wpAnyH_take (i:=4) (oi:=⟨some 7,_,_,_,_,_⟩) (v:=.pointer (some ⟨B,1,none⟩)) rfl (by kernel_rfl) (by kernel_rfl) (by kernel_rfl) (fun _ _ _ h=>h) (Or.inl ⟨by rfl,fun w' hw'=>?_⟩) (by assumption) ?_
  · clear hHeld
    go_simp
  try simp only [Act.put,sIB,sCZ,sCS]
  refine wpAnyH_take (i:=5) (oi:=⟨some 8,_,_,_,_,_⟩) (v:=.agg (pcs c.p)) rfl (by kernel_rfl) (by kernel_rfl) (by kernel_rfl) (fun _ _ _ h=>h) (Or.inl ⟨by rfl,fun w' hw'=>z1o rfl (HX.out.later (Hid.out hw'))⟩) (by assumption) ?_
  try simp only [Act.put,sIB,sCZ,sCS]
  refine wpAnyH_ready (rs:=[6]) (by kernel_rfl) (by simp) (AllReadyH.cons rfl (fun K hK=>?_) (AllReadyH.nil))
  go_simp
  go_wp2_with fail
  refine (HG.out _ hHeld.out).mono ?_
  rintro e w2 ⟨rfl,hb2⟩
  have hSN:Hid (Below W1.heap.size W1 w2):=hid (hHeld.out.trans (hb2.mono hHeld.out.size))
  clear hb2
  go_wp2_with fail
  refine hK.out _ _ hSN (fun hHeld2=>?_)
  try simp only [Act.put,sIB,sCZ,sCS]
  clear hSN hK K hHeld
  have hHeld:=hHeld2
  clear hHeld2
  refine wpAnyH_take (i:=7) (oi:=⟨some 10,_,_,_,_,_⟩) (v:=.bool true) rfl (by kernel_rfl) (by kernel_rfl) (by kernel_rfl) (fun _ _ _ h=>h) (Or.inl ⟨by rfl,fun w' hw'=>?_⟩) (by assumption) ?_
  · clear hHeld
    go_simp
  try simp only [Act.put,sIB,sCZ,sCS]
  refine wpAnyH_take (i:=8) (oi:=⟨some 11,_,_,_,_,_⟩) (v:=.bool true) rfl (by kernel_rfl) (by kernel_rfl) (by kernel_rfl) (fun _ _ _ h=>h) (Or.inl ⟨by rfl,fun w' hw'=>?_⟩) (by assumption) ?_
  · clear hHeld
    go_simp
  try simp only [Act.put,sIB,sCZ,sCS]
  refine wpAnyH_take (i:=9) (oi:=⟨some 12,_,_,_,_,_⟩) (v:=.pointer (some ⟨B,12,none⟩)) rfl (by kernel_rfl) (by kernel_rfl) (by kernel_rfl) (fun _ _ _ h=>h) (Or.inl ⟨by rfl,fun w' hw'=>?_⟩) (by assumption) ?_
  · clear hHeld
    go_simp
  try simp only [Act.put,sIB,sCZ,sCS]
  refine wpAnyH_take (i:=10) (oi:=⟨some 13,_,_,_,_,_⟩) (v:=.int .i64 c.st) rfl (by kernel_rfl) (by kernel_rfl) (by kernel_rfl) (fun _ _ _ h=>h) (Or.inl ⟨by rfl,fun w' hw'=>?_⟩) (by assumption) ?_
  · have hcx:=(HX.out.later hw'.out).at.2.2.1
    clear hHeld hw'
    go_simp
  try simp only [Act.put,sIB,sCZ,sCS]
  refine wpAnyH_take (i:=11) (oi:=⟨some 14,_,_,_,_,_⟩) (v:=.bool true) rfl (by kernel_rfl) (by kernel_rfl) (by kernel_rfl) (fun _ _ _ h=>h) (Or.inl ⟨by rfl,fun w' hw'=>?_⟩) (by assumption) ?_
  · clear hHeld
    go_simp
  try simp only [Act.put,sIB,sCZ,sCS]
  refine wpAnyH_take (i:=12) (oi:=⟨some 15,_,_,_,_,_⟩) (v:=.bool true) rfl (by kernel_rfl) (by kernel_rfl) (by kernel_rfl) (fun _ _ _ h=>h) (Or.inl ⟨by rfl,fun w' hw'=>?_⟩) (by assumption) ?_
  · clear hHeld
    go_simp
  try simp only [Act.put,sIB,sCZ,sCS]
  refine wpAnyH_take (i:=13) (oi:=⟨some 16,_,_,_,_,_⟩) (v:=.bool true) rfl (by kernel_rfl) (by kernel_rfl) (by kernel_rfl) (fun _ _ _ h=>h) (Or.inl ⟨by rfl,fun w' hw'=>?_⟩) (by assumption) ?_
  · clear hHeld
    go_simp
  try simp only [Act.put,sIB,sCZ,sCS]
  refine wpAnyH_take (i:=14) (oi:=⟨some 17,_,_,_,_,_⟩) (v:=.pointer (some ⟨B,12,none⟩)) rfl (by kernel_rfl) (by kernel_rfl) (by kernel_rfl) (fun _ _ _ h=>h) (Or.inl ⟨by rfl,fun w' hw'=>?_⟩) (by assumption) ?_
  · clear hHeld
    go_simp
  try simp only [Act.put,sIB,sCZ,sCS]
  refine wpAnyH_take (i:=15) (oi:=⟨some 18,_,_,_,_,_⟩) (v:=.int .i64 c.st) rfl (by kernel_rfl) (by kernel_rfl) (by kernel_rfl) (fun _ _ _ h=>h) (Or.inl ⟨by rfl,fun w' hw'=>?_⟩) (by assumption) ?_
  · have hcx:=(HX.out.later hw'.out).at.2.2.1
    clear hHeld hw'
    go_simp
  try simp only [Act.put,sIB,sCZ,sCS]
  refine wpAnyH_take (i:=16) (oi:=⟨some 19,_,_,_,_,_⟩) (v:=.pointer (some ⟨B,1,none⟩)) rfl (by kernel_rfl) (by kernel_rfl) (by kernel_rfl) (fun _ _ _ h=>h) (Or.inl ⟨by rfl,fun w' hw'=>?_⟩) (by assumption) ?_
  · clear hHeld
    go_simp
  try simp only [Act.put,sIB,sCZ,sCS]
  refine wpAnyH_take (i:=17) (oi:=⟨some 20,_,_,_,_,_⟩) (v:=.agg (pcs c.p)) rfl (by kernel_rfl) (by kernel_rfl) (by kernel_rfl) (fun _ _ _ h=>h) (Or.inl ⟨by rfl,fun w' hw'=>z1o rfl (HX.out.later (Hid.out hw'))⟩) (by assumption) ?_
  try simp only [Act.put,sIB,sCZ,sCS]
  refine wpAnyH_ready (rs:=[18]) (by kernel_rfl) (by simp) (AllReadyH.cons rfl (fun K hK=>?_) (AllReadyH.nil))
  go_simp
  go_wp2_with fail
  refine (HS.out _ hHeld.out).mono ?_
  rintro e w3 ⟨p3,c3,H3,rfl,hs3,hb3⟩
  have hSN:Hid (Below W1.heap.size W1 w3):=hid (hHeld.out.trans (hb3.mono hHeld.out.size))
  clear hb3 hs3
  go_wp2_with fail
  refine hK.out _ _ hSN (fun hHeld2=>?_)
  try simp only [Act.put,sIB,sCZ,sCS]
  clear hSN hK K hHeld
  have hHeld:=hHeld2
  clear hHeld2
  refine wpAnyH_take (i:=19) (oi:=⟨some 22,_,_,_,_,_⟩) (v:=.int .i64 (S.length:Int)) rfl (by kernel_rfl) (by kernel_rfl) (by kernel_rfl) (fun _ _ _ h=>h) (Or.inl ⟨by rfl,fun w' hw'=>?_⟩) (by assumption) ?_
  · clear hHeld
    go_simp
  try simp only [Act.put,sIB,sCZ,sCS]
  refine wpAnyH_take (i:=20) (oi:=⟨some 23,_,_,_,_,_⟩) (v:=.bool false) rfl (by kernel_rfl) (by kernel_rfl) (by kernel_rfl) (fun _ _ _ h=>h) (Or.inl ⟨by rfl,fun w' hw'=>?_⟩) (by assumption) ?_
  · clear hHeld
    go_simp
  try simp only [Act.put,sIB,sCZ,sCS]
  refine wpAnyH_take (i:=21) (oi:=⟨some 24,_,_,_,_,_⟩) (v:=.bool false) rfl (by kernel_rfl) (by kernel_rfl) (by kernel_rfl) (fun _ _ _ h=>h) (Or.inl ⟨by rfl,fun w' hw'=>?_⟩) (by assumption) ?_
  · clear hHeld
    go_simp
  try simp only [Act.put,sIB,sCZ,sCS]
  refine wpAnyH_take (i:=22) (oi:=⟨some 25,_,_,_,_,_⟩) (v:=.bool false) rfl (by kernel_rfl) (by kernel_rfl) (by kernel_rfl) (fun _ _ _ h=>h) (Or.inl ⟨by rfl,fun w' hw'=>?_⟩) (by assumption) ?_
  · clear hHeld
    go_simp
  try simp only [Act.put,sIB,sCZ,sCS]
  refine wpAnyH_take (i:=23) (oi:=⟨some 26,_,_,_,_,_⟩) (v:=undef) rfl (by kernel_rfl) (by kernel_rfl) (by kernel_rfl) (fun _ _ _ h=>h) (Or.inr ⟨by rfl,rfl⟩) (by assumption) ?_
  try simp only [Act.put,sIB,sCZ,sCS]
  refine wpAnyH_take (i:=24) (oi:=⟨some 27,_,_,_,_,_⟩) (v:=undef) rfl (by kernel_rfl) (by kernel_rfl) (by kernel_rfl) (fun _ _ _ h=>h) (Or.inr ⟨by rfl,rfl⟩) (by assumption) ?_
  try simp only [Act.put,sIB,sCZ,sCS]
  refine wpAnyH_take (i:=25) (oi:=⟨some 28,_,_,_,_,_⟩) (v:=undef) rfl (by kernel_rfl) (by kernel_rfl) (by kernel_rfl) (fun _ _ _ h=>h) (Or.inr ⟨by rfl,rfl⟩) (by assumption) ?_
  try simp only [Act.put,sIB,sCZ,sCS]
  refine wpAnyH_take (i:=26) (oi:=⟨some 29,_,_,_,_,_⟩) (v:=.bool false) rfl (by kernel_rfl) (by kernel_rfl) (by kernel_rfl) (fun _ _ _ h=>h) (Or.inl ⟨by rfl,fun w' hw'=>?_⟩) (by assumption) ?_
  · clear hHeld
    go_simp
  try simp only [Act.put,sIB,sCZ,sCS]
  refine wpAnyH_take (i:=27) (oi:=⟨some 2,_,_,_,_,_⟩) (v:=.bool false) rfl (by kernel_rfl) (by kernel_rfl) (by kernel_rfl) (fun _ _ _ h=>h) (Or.inl ⟨by rfl,fun w' hw'=>?_⟩) (by assumption) ?_
  · clear hHeld
    go_simp
  try simp only [Act.put,sIB,sCZ,sCS]
  have hfin:=hHeld.out
  refine wpAnyH_done (by kernel_rfl) ?_ _
  clear hHeld
  go_wp2_with fail
  go_ret
  refine⟨?_,HB1.out.trans (hfin.mono HB1.out.size)⟩
  rw [HGC.out]
  first | (simp [*];done) | (rw [decide_eq_false (show ¬ 0≤c.st by omega)];simp;done) | (rw [decide_eq_false (show ¬ c.st≤(S.length:Int) by omega)];simp;done)
 case pos =>
  go_enter Tryz.func52,Tryz.ntmps52
  go_upto_region 1 with (fail)
  rw [HW1.out,HRE.out]
  have hbd:Below W1.heap.size W1 W1.drew:=(Below.refl _ _).drew
  refine wp_region_held_drew (S:=fun w'=>Hid (Below W1.heap.size W1 w')) (by kernel_rfl) (hid hbd) (fun hHeld=>?_)
  clear hbd
  generalize W1.drew=Wd at *
  refine wpAnyH_take (i:=0) (oi:=⟨some 3,_,_,_,_,_⟩) (v:=.pointer (some ⟨B,0,none⟩)) rfl (by kernel_rfl) (by kernel_rfl) (by kernel_rfl) (fun _ _ _ h=>h) (Or.inl ⟨by rfl,fun w' hw'=>?_⟩) (by assumption) ?_
  · clear hHeld
    go_simp
  try simp only [Act.put,sIB,sCZ,sCS]
  refine wpAnyH_take (i:=1) (oi:=⟨some 4,_,_,_,_,_⟩) (v:=.int .u32 c.sg) rfl (by kernel_rfl) (by kernel_rfl) (by kernel_rfl) (fun _ _ _ h=>h) (Or.inl ⟨by rfl,fun w' hw'=>?_⟩) (by assumption) ?_
  · have hcx:=(HX.out.later hw'.out).at.1
    clear hHeld hw'
    go_simp
  try simp only [Act.put,sIB,sCZ,sCS]
  refine wpAnyH_take (i:=2) (oi:=⟨some 5,_,_,_,_,_⟩) (v:=.bool true) rfl (by kernel_rfl) (by kernel_rfl) (by kernel_rfl) (fun _ _ _ h=>h) (Or.inl ⟨by rfl,fun w' hw'=>?_⟩) (by assumption) ?_
  · clear hHeld
    go_simp
  try simp only [Act.put,sIB,sCZ,sCS]
  refine wpAnyH_take (i:=3) (oi:=⟨some 6,_,_,_,_,_⟩) (v:=.bool true) rfl (by kernel_rfl) (by kernel_rfl) (by kernel_rfl) (fun _ _ _ h=>h) (Or.inl ⟨by rfl,fun w' hw'=>?_⟩) (by assumption) ?_
  · clear hHeld
    go_simp
  try simp only [Act.put,sIB,sCZ,sCS]
  refine wpAnyH_take (i:=4) (oi:=⟨some 7,_,_,_,_,_⟩) (v:=.pointer (some ⟨B,1,none⟩)) rfl (by kernel_rfl) (by kernel_rfl) (by kernel_rfl) (fun _ _ _ h=>h) (Or.inl ⟨by rfl,fun w' hw'=>?_⟩) (by assumption) ?_
  · clear hHeld
    go_simp
  try simp only [Act.put,sIB,sCZ,sCS]
  refine wpAnyH_take (i:=5) (oi:=⟨some 8,_,_,_,_,_⟩) (v:=.agg (pcs c.p)) rfl (by kernel_rfl) (by kernel_rfl) (by kernel_rfl) (fun _ _ _ h=>h) (Or.inl ⟨by rfl,fun w' hw'=>z1o rfl (HX.out.later (Hid.out hw'))⟩) (by assumption) ?_
  try simp only [Act.put,sIB,sCZ,sCS]
  refine wpAnyH_ready (rs:=[6]) (by kernel_rfl) (by simp) (AllReadyH.cons rfl (fun K hK=>?_) (AllReadyH.nil))
  go_simp
  go_wp2_with fail
  refine (HG.out _ hHeld.out).mono ?_
  rintro e w2 ⟨rfl,hb2⟩
  have hSN:Hid (Below W1.heap.size W1 w2):=hid (hHeld.out.trans (hb2.mono hHeld.out.size))
  clear hb2
  go_wp2_with fail
  refine hK.out _ _ hSN (fun hHeld2=>?_)
  try simp only [Act.put,sIB,sCZ,sCS]
  clear hSN hK K hHeld
  have hHeld:=hHeld2
  clear hHeld2
  refine wpAnyH_take (i:=7) (oi:=⟨some 10,_,_,_,_,_⟩) (v:=.bool true) rfl (by kernel_rfl) (by kernel_rfl) (by kernel_rfl) (fun _ _ _ h=>h) (Or.inl ⟨by rfl,fun w' hw'=>?_⟩) (by assumption) ?_
  · clear hHeld
    go_simp
  try simp only [Act.put,sIB,sCZ,sCS]
  refine wpAnyH_take (i:=8) (oi:=⟨some 11,_,_,_,_,_⟩) (v:=.bool true) rfl (by kernel_rfl) (by kernel_rfl) (by kernel_rfl) (fun _ _ _ h=>h) (Or.inl ⟨by rfl,fun w' hw'=>?_⟩) (by assumption) ?_
  · clear hHeld
    go_simp
  try simp only [Act.put,sIB,sCZ,sCS]
  refine wpAnyH_take (i:=9) (oi:=⟨some 12,_,_,_,_,_⟩) (v:=.pointer (some ⟨B,12,none⟩)) rfl (by kernel_rfl) (by kernel_rfl) (by kernel_rfl) (fun _ _ _ h=>h) (Or.inl ⟨by rfl,fun w' hw'=>?_⟩) (by assumption) ?_
  · clear hHeld
    go_simp
  try simp only [Act.put,sIB,sCZ,sCS]
  refine wpAnyH_take (i:=10) (oi:=⟨some 13,_,_,_,_,_⟩) (v:=.int .i64 c.st) rfl (by kernel_rfl) (by kernel_rfl) (by kernel_rfl) (fun _ _ _ h=>h) (Or.inl ⟨by rfl,fun w' hw'=>?_⟩) (by assumption) ?_
  · have hcx:=(HX.out.later hw'.out).at.2.2.1
    clear hHeld hw'
    go_simp
  try simp only [Act.put,sIB,sCZ,sCS]
  refine wpAnyH_take (i:=11) (oi:=⟨some 14,_,_,_,_,_⟩) (v:=.bool true) rfl (by kernel_rfl) (by kernel_rfl) (by kernel_rfl) (fun _ _ _ h=>h) (Or.inl ⟨by rfl,fun w' hw'=>?_⟩) (by assumption) ?_
  · clear hHeld
    go_simp
  try simp only [Act.put,sIB,sCZ,sCS]
  refine wpAnyH_take (i:=12) (oi:=⟨some 15,_,_,_,_,_⟩) (v:=.bool true) rfl (by kernel_rfl) (by kernel_rfl) (by kernel_rfl) (fun _ _ _ h=>h) (Or.inl ⟨by rfl,fun w' hw'=>?_⟩) (by assumption) ?_
  · clear hHeld
    go_simp
  try simp only [Act.put,sIB,sCZ,sCS]
  refine wpAnyH_take (i:=13) (oi:=⟨some 16,_,_,_,_,_⟩) (v:=.bool true) rfl (by kernel_rfl) (by kernel_rfl) (by kernel_rfl) (fun _ _ _ h=>h) (Or.inl ⟨by rfl,fun w' hw'=>?_⟩) (by assumption) ?_
  · clear hHeld
    go_simp
  try simp only [Act.put,sIB,sCZ,sCS]
  refine wpAnyH_take (i:=14) (oi:=⟨some 17,_,_,_,_,_⟩) (v:=.pointer (some ⟨B,12,none⟩)) rfl (by kernel_rfl) (by kernel_rfl) (by kernel_rfl) (fun _ _ _ h=>h) (Or.inl ⟨by rfl,fun w' hw'=>?_⟩) (by assumption) ?_
  · clear hHeld
    go_simp
  try simp only [Act.put,sIB,sCZ,sCS]
  refine wpAnyH_take (i:=15) (oi:=⟨some 18,_,_,_,_,_⟩) (v:=.int .i64 c.st) rfl (by kernel_rfl) (by kernel_rfl) (by kernel_rfl) (fun _ _ _ h=>h) (Or.inl ⟨by rfl,fun w' hw'=>?_⟩) (by assumption) ?_
  · have hcx:=(HX.out.later hw'.out).at.2.2.1
    clear hHeld hw'
    go_simp
  try simp only [Act.put,sIB,sCZ,sCS]
  refine wpAnyH_take (i:=16) (oi:=⟨some 19,_,_,_,_,_⟩) (v:=.pointer (some ⟨B,1,none⟩)) rfl (by kernel_rfl) (by kernel_rfl) (by kernel_rfl) (fun _ _ _ h=>h) (Or.inl ⟨by rfl,fun w' hw'=>?_⟩) (by assumption) ?_
  · clear hHeld
    go_simp
  try simp only [Act.put,sIB,sCZ,sCS]
  refine wpAnyH_take (i:=17) (oi:=⟨some 20,_,_,_,_,_⟩) (v:=.agg (pcs c.p)) rfl (by kernel_rfl) (by kernel_rfl) (by kernel_rfl) (fun _ _ _ h=>h) (Or.inl ⟨by rfl,fun w' hw'=>z1o rfl (HX.out.later (Hid.out hw'))⟩) (by assumption) ?_
  try simp only [Act.put,sIB,sCZ,sCS]
  refine wpAnyH_ready (rs:=[18]) (by kernel_rfl) (by simp) (AllReadyH.cons rfl (fun K hK=>?_) (AllReadyH.nil))
  go_simp
  go_wp2_with fail
  refine (HS.out _ hHeld.out).mono ?_
  rintro e w3 ⟨p3,c3,H3,rfl,hs3,hb3⟩
  have hSN:Hid (Below W1.heap.size W1 w3):=hid (hHeld.out.trans (hb3.mono hHeld.out.size))
  clear hb3 hs3
  go_wp2_with fail
  refine hK.out _ _ hSN (fun hHeld2=>?_)
  try simp only [Act.put,sIB,sCZ,sCS]
  clear hSN hK K hHeld
  have hHeld:=hHeld2
  clear hHeld2
  refine wpAnyH_take (i:=19) (oi:=⟨some 22,_,_,_,_,_⟩) (v:=.int .i64 (S.length:Int)) rfl (by kernel_rfl) (by kernel_rfl) (by kernel_rfl) (fun _ _ _ h=>h) (Or.inl ⟨by rfl,fun w' hw'=>?_⟩) (by assumption) ?_
  · clear hHeld
    go_simp
  try simp only [Act.put,sIB,sCZ,sCS]
  refine wpAnyH_take (i:=20) (oi:=⟨some 23,_,_,_,_,_⟩) (v:=.bool true) rfl (by kernel_rfl) (by kernel_rfl) (by kernel_rfl) (fun _ _ _ h=>h) (Or.inl ⟨by rfl,fun w' hw'=>?_⟩) (by assumption) ?_
  · clear hHeld
    go_simp
  try simp only [Act.put,sIB,sCZ,sCS]
  refine wpAnyH_take (i:=21) (oi:=⟨some 24,_,_,_,_,_⟩) (v:=.bool true) rfl (by kernel_rfl) (by kernel_rfl) (by kernel_rfl) (fun _ _ _ h=>h) (Or.inl ⟨by rfl,fun w' hw'=>?_⟩) (by assumption) ?_
  · clear hHeld
    go_simp
  try simp only [Act.put,sIB,sCZ,sCS]
  refine wpAnyH_take (i:=22) (oi:=⟨some 25,_,_,_,_,_⟩) (v:=.bool true) rfl (by kernel_rfl) (by kernel_rfl) (by kernel_rfl) (fun _ _ _ h=>h) (Or.inl ⟨by rfl,fun w' hw'=>?_⟩) (by assumption) ?_
  · clear hHeld
    go_simp
  try simp only [Act.put,sIB,sCZ,sCS]
  refine wpAnyH_take (i:=23) (oi:=⟨some 26,_,_,_,_,_⟩) (v:=.pointer (some ⟨B,13,none⟩)) rfl (by kernel_rfl) (by kernel_rfl) (by kernel_rfl) (fun _ _ _ h=>h) (Or.inl ⟨by rfl,fun w' hw'=>?_⟩) (by assumption) ?_
  · clear hHeld
    go_simp
  try simp only [Act.put,sIB,sCZ,sCS]
  refine wpAnyH_take (i:=24) (oi:=⟨some 27,_,_,_,_,_⟩) (v:=.int .i64 c.tr) rfl (by kernel_rfl) (by kernel_rfl) (by kernel_rfl) (fun _ _ _ h=>h) (Or.inl ⟨by rfl,fun w' hw'=>?_⟩) (by assumption) ?_
  · have hcx:=(HX.out.later hw'.out).at.2.2.2.1
    clear hHeld hw'
    go_simp
  try simp only [Act.put,sIB,sCZ,sCS]
  refine wpAnyH_take (i:=25) (oi:=⟨some 28,_,_,_,_,_⟩) (v:=.bool (decide (0≤c.tr))) rfl (by kernel_rfl) (by kernel_rfl) (by kernel_rfl) (fun _ _ _ h=>h) (Or.inl ⟨by rfl,fun w' hw'=>?_⟩) (by assumption) ?_
  · clear hHeld
    go_simp
  try simp only [Act.put,sIB,sCZ,sCS]
  refine wpAnyH_take (i:=26) (oi:=⟨some 29,_,_,_,_,_⟩) (v:=.bool (decide (0≤c.tr))) rfl (by kernel_rfl) (by kernel_rfl) (by kernel_rfl) (fun _ _ _ h=>h) (Or.inl ⟨by rfl,fun w' hw'=>?_⟩) (by assumption) ?_
  · clear hHeld
    go_simp
  try simp only [Act.put,sIB,sCZ,sCS]
  refine wpAnyH_take (i:=27) (oi:=⟨some 2,_,_,_,_,_⟩) (v:=.bool (decide (0≤c.tr))) rfl (by kernel_rfl) (by kernel_rfl) (by kernel_rfl) (fun _ _ _ h=>h) (Or.inl ⟨by rfl,fun w' hw'=>?_⟩) (by assumption) ?_
  · clear hHeld
    go_simp
  try simp only [Act.put,sIB,sCZ,sCS]
  have hfin:=hHeld.out
  refine wpAnyH_done (by kernel_rfl) ?_ _
  clear hHeld
  go_wp2_with fail
  go_ret
  refine⟨?_,HB1.out.trans (hfin.mono HB1.out.size)⟩
  rw [HGC.out]
  first | (simp [*];done) | (rw [decide_eq_false (show ¬ 0≤c.st by omega)];simp;done) | (rw [decide_eq_false (show ¬ c.st≤(S.length:Int) by omega)];simp;done)
end Go.Proofs.YtclbkfpbdidaiaaGreatDoor
