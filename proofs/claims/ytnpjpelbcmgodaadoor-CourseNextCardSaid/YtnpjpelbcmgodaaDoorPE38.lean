import Derived.Test.YtnpjpelbcmgodaaDoorPE35
import Derived.Test.YtnpjpelbcmgodaaDoorPE21
namespace Go.Proofs.YtnpjpelbcmgodaaDoor
open Go.Lib (hid)
set_option maxHeartbeats 8000000
open Go.RowKit Go.ChangeShapes Go.WideShapes
set_option linter.unusedVariables false
set_option linter.unusedSimpArgs false
set_option maxRecDepth 10000
theorem two_recs (W:World) (r r':Rv):∃ W1,(W.alloc (.cells (rcs r) 32)).alloc (.cells (rcs r') 32)=W1∧RB W1 W.heap.size r∧RB W1 (W.heap.size+1) r'∧Below W.heap.size W W1:=by
 refine⟨_,rfl,?_,?_,((Below.refl _ _).alloc (Nat.le_refl _) _).alloc (by simp) _⟩
 · exact (Below.heap_alloc _ _ _ (by simp)).trans (z0d W _)
 · have:=z0d (W.alloc (.cells (rcs r) 32)) (.cells (rcs r') 32)
   rw [World.size_alloc] at this
   exact this
theorem rx_eq (r r':Rv) (L:List Ln) (T:List Tk) (M:List Ln) (L':List Ln) (T':List Tk) (M':List Ln):decide (r.x L T M=r'.x L' T' M')=(r.k==r'.k && r.sg==r'.sg && r.tx==r'.tx && r.st==r'.st && r.cp==r'.cp && decide (((r.ka,r.kb,r.kc):K)=(r'.ka,r'.kb,r'.kc)) && r.d==r'.d && r.o==r'.o && decide (r.pg L T M=r'.pg L' T' M')):=by
 rw [Bool.eq_iff_iff]
 simp only [decide_eq_true_eq,Bool.and_eq_true,beq_iff_eq]
 constructor
 · intro h
   refine⟨⟨⟨⟨⟨⟨⟨⟨?_,?_⟩,?_⟩,?_⟩,?_⟩,?_⟩,?_⟩,?_⟩,?_⟩
   · exact congrArg Rx.k h
   · exact congrArg Rx.sg h
   · exact congrArg Rx.tx h
   · exact congrArg Rx.st h
   · exact congrArg Rx.cp h
   · exact congrArg Rx.key h
   · exact congrArg Rx.d h
   · exact congrArg Rx.o h
   · exact congrArg Rx.pg h
 · rintro ⟨⟨⟨⟨⟨⟨⟨⟨h1,h2⟩,h3⟩,h4⟩,h5⟩,h6⟩,h7⟩,h8⟩,h9⟩
   unfold Rv.x
   rw [h1,h2,h3,h4,h5,h6,h7,h8,h9]
theorem rrec_same (r r':Rv) (L:List Ln) (T:List Tk) (M:List Ln) (L':List Ln) (T':List Tk) (M':List Ln) (W:World) (hP:RvM W r L T M) (hP':RvM W r' L' T' M') (h1:r.ln≤1000∧r.tn≤1000∧r.wn≤1000) (h2:r'.ln≤1000∧r'.tn≤1000∧r'.wn≤1000):Calls Tryd.prog 16 #[.agg (rcs r),.agg (rcs r')] W fun e w'=>e=.returned (.bool (decide (r.x L T M=r'.x L' T' M')))∧Below W.heap.size W w':=by
 obtain⟨W1,hW1,hx,hx',hb1⟩:=two_recs W r r'
 have HP:=hid (hP.later hb1)
 have HP':=hid (hP'.later hb1)
 have hpp:=z4w r.pk r.od r.po r.lp r.ln r.lcp r.tp r.tn r.tcp r.wp r.wn r.wcp r.sk r.fr r.to r.q r'.pk r'.od r'.po r'.lp r'.ln r'.lcp r'.tp r'.tn r'.tcp r'.wp r'.wn r'.wcp r'.sk r'.fr r'.to r'.q L T M L' T' M' W1 HP.out HP'.out h1 h2
 have hkk:=fun w=>key_eql r.ka r.kb r.kc r'.ka r'.kb r'.kc w
 obtain⟨y,hy⟩:∃ y,decide (((r.ka,r.kb,r.kc):K)=(r'.ka,r'.kb,r'.kc))=y:=⟨_,rfl⟩
 obtain⟨z,hz⟩:∃ z,decide (r.pg L T M=r'.pg L' T' M')=z:=⟨_,rfl⟩
 have hz':decide ((⟨r.pk,r.od,r.po,L,T,M,r.sk,r.fr,r.to,r.q⟩:Pg)=⟨r'.pk,r'.od,r'.po,L',T',M',r'.sk,r'.fr,r'.to,r'.q⟩)=z:=hz
 rw [hz'] at hpp
 rw [hy] at hkk
 have HA:=hid (rx_eq r r' L T M L' T' M')
 rw [hy,hz] at HA
 have HX:=hid hx
 have HX':=hid hx'
 have HW1:=hid hW1
 have HB1:=hid hb1
 have c0:W1.cell? ⟨W.heap.size,0,none⟩=some (.int .u8 r.k):=z0b hx rfl
 have d0:W1.cell? ⟨W.heap.size+1,0,none⟩=some (.int .u8 r'.k):=z0b hx' rfl
 have c1:W1.cell? ⟨W.heap.size,1,none⟩=some (.int .u32 r.sg):=z0b hx rfl
 have d1:W1.cell? ⟨W.heap.size+1,1,none⟩=some (.int .u32 r'.sg):=z0b hx' rfl
 have c2:W1.cell? ⟨W.heap.size,2,none⟩=some (.int .u32 r.tx):=z0b hx rfl
 have d2:W1.cell? ⟨W.heap.size+1,2,none⟩=some (.int .u32 r'.tx):=z0b hx' rfl
 have c3:W1.cell? ⟨W.heap.size,3,none⟩=some (.int .u8 r.st):=z0b hx rfl
 have d3:W1.cell? ⟨W.heap.size+1,3,none⟩=some (.int .u8 r'.st):=z0b hx' rfl
 have c4:W1.cell? ⟨W.heap.size,4,none⟩=some (.bool r.cp):=z0b hx rfl
 have d4:W1.cell? ⟨W.heap.size+1,4,none⟩=some (.bool r'.cp):=z0b hx' rfl
 have c8:W1.cell? ⟨W.heap.size,8,none⟩=some (.int .i64 r.d):=z0b hx rfl
 have d8:W1.cell? ⟨W.heap.size+1,8,none⟩=some (.int .i64 r'.d):=z0b hx' rfl
 have c9:W1.cell? ⟨W.heap.size,9,none⟩=some (.int .u8 r.o):=z0b hx rfl
 have d9:W1.cell? ⟨W.heap.size+1,9,none⟩=some (.int .u8 r'.o):=z0b hx' rfl
 clear hW1 hx hx' hb1 hP hP' h1 h2 hy hz hz'
 cases qk:(r.k==r'.k)
 case false =>
  go_enter Tryd.func16,Tryd.ntmps16
  go_upto_region 1 with (fail)
  rw [HW1.out]
  go_wp2_with (first | ((with_reducible refine z0k HX.out ?_ ?_ ?_);rfl;rfl) | ((with_reducible refine z0k HX'.out ?_ ?_ ?_);rfl;rfl) | ((with_reducible refine z0j HX.out ?_ ?_ ?_);rfl;rfl) | ((with_reducible refine z0j HX'.out ?_ ?_ ?_);rfl;rfl))
  go_ret
  exact⟨by rw [HA.out,qk];rfl,HB1.out⟩
 cases qsg:(r.sg==r'.sg)
 case false =>
  go_enter Tryd.func16,Tryd.ntmps16
  go_upto_region 1 with (fail)
  rw [HW1.out]
  go_wp2_with (first | ((with_reducible refine z0k HX.out ?_ ?_ ?_);rfl;rfl) | ((with_reducible refine z0k HX'.out ?_ ?_ ?_);rfl;rfl) | ((with_reducible refine z0j HX.out ?_ ?_ ?_);rfl;rfl) | ((with_reducible refine z0j HX'.out ?_ ?_ ?_);rfl;rfl))
  go_ret
  exact⟨by rw [HA.out,qk,qsg];rfl,HB1.out⟩
 cases qtx:(r.tx==r'.tx)
 case false =>
  go_enter Tryd.func16,Tryd.ntmps16
  go_upto_region 1 with (fail)
  rw [HW1.out]
  go_wp2_with (first | ((with_reducible refine z0k HX.out ?_ ?_ ?_);rfl;rfl) | ((with_reducible refine z0k HX'.out ?_ ?_ ?_);rfl;rfl) | ((with_reducible refine z0j HX.out ?_ ?_ ?_);rfl;rfl) | ((with_reducible refine z0j HX'.out ?_ ?_ ?_);rfl;rfl))
  go_ret
  exact⟨by rw [HA.out,qk,qsg,qtx];rfl,HB1.out⟩
 cases qst:(r.st==r'.st)
 case false =>
  go_enter Tryd.func16,Tryd.ntmps16
  go_upto_region 1 with (fail)
  rw [HW1.out]
  go_wp2_with (first | ((with_reducible refine z0k HX.out ?_ ?_ ?_);rfl;rfl) | ((with_reducible refine z0k HX'.out ?_ ?_ ?_);rfl;rfl) | ((with_reducible refine z0j HX.out ?_ ?_ ?_);rfl;rfl) | ((with_reducible refine z0j HX'.out ?_ ?_ ?_);rfl;rfl))
  go_ret
  exact⟨by rw [HA.out,qk,qsg,qtx,qst];rfl,HB1.out⟩
 cases qcp:(r.cp==r'.cp)
 case false =>
  go_enter Tryd.func16,Tryd.ntmps16
  go_upto_region 1 with (fail)
  rw [HW1.out]
  go_wp2_with (first | ((with_reducible refine z0k HX.out ?_ ?_ ?_);rfl;rfl) | ((with_reducible refine z0k HX'.out ?_ ?_ ?_);rfl;rfl) | ((with_reducible refine z0j HX.out ?_ ?_ ?_);rfl;rfl) | ((with_reducible refine z0j HX'.out ?_ ?_ ?_);rfl;rfl))
  go_ret
  exact⟨by rw [HA.out,qk,qsg,qtx,qst,qcp];rfl,HB1.out⟩
 cases y
 case false =>
  go_enter Tryd.func16,Tryd.ntmps16
  go_upto_region 1 with (fail)
  rw [HW1.out]
  go_wp2_with (first | ((with_reducible refine z0k HX.out ?_ ?_ ?_);rfl;rfl) | ((with_reducible refine z0k HX'.out ?_ ?_ ?_);rfl;rfl) | ((with_reducible refine z0j HX.out ?_ ?_ ?_);rfl;rfl) | ((with_reducible refine z0j HX'.out ?_ ?_ ?_);rfl;rfl))
  go_ret
  exact⟨by rw [HA.out,qk,qsg,qtx,qst,qcp];rfl,HB1.out⟩
 cases qd:(r.d==r'.d)
 case false =>
  go_enter Tryd.func16,Tryd.ntmps16
  go_upto_region 1 with (fail)
  rw [HW1.out]
  go_wp2_with (first | ((with_reducible refine z0k HX.out ?_ ?_ ?_);rfl;rfl) | ((with_reducible refine z0k HX'.out ?_ ?_ ?_);rfl;rfl) | ((with_reducible refine z0j HX.out ?_ ?_ ?_);rfl;rfl) | ((with_reducible refine z0j HX'.out ?_ ?_ ?_);rfl;rfl))
  go_ret
  exact⟨by rw [HA.out,qk,qsg,qtx,qst,qcp,qd];rfl,HB1.out⟩
 cases qo:(r.o==r'.o)
 case false =>
  go_enter Tryd.func16,Tryd.ntmps16
  go_upto_region 1 with (fail)
  rw [HW1.out]
  go_wp2_with (first | ((with_reducible refine z0k HX.out ?_ ?_ ?_);rfl;rfl) | ((with_reducible refine z0k HX'.out ?_ ?_ ?_);rfl;rfl) | ((with_reducible refine z0j HX.out ?_ ?_ ?_);rfl;rfl) | ((with_reducible refine z0j HX'.out ?_ ?_ ?_);rfl;rfl))
  go_ret
  exact⟨by rw [HA.out,qk,qsg,qtx,qst,qcp,qd,qo];rfl,HB1.out⟩
 go_enter Tryd.func16,Tryd.ntmps16
 go_upto_region 1 with (fail)
 rw [HW1.out]
 go_wp2_with (first | ((with_reducible refine z0k HX.out ?_ ?_ ?_);rfl;rfl) | ((with_reducible refine z0k HX'.out ?_ ?_ ?_);rfl;rfl) | ((with_reducible refine z0j HX.out ?_ ?_ ?_);rfl;rfl) | ((with_reducible refine z0j HX'.out ?_ ?_ ?_);rfl;rfl))
 refine hpp.mono ?_
 rintro e w2 ⟨rfl,h2⟩
 have HB2:=hid (HB1.out.trans (h2.mono HB1.out.size))
 clear h2 hpp c0 d0 c1 d1 c2 d2 c3 d3 c4 d4 c8 d8 c9 d9
 go_wp2_with fail
 go_ret
 exact⟨by rw [HA.out,qk,qsg,qtx,qst,qcp,qd,qo];rfl,HB2.out⟩
end Go.Proofs.YtnpjpelbcmgodaaDoor
namespace Go.Proofs.YtnpjpelbcmgodaaDoor
open Go.Lib (hid)
set_option maxHeartbeats 8000000
open Go.RowKit Go.ChangeShapes Go.WideShapes Go.Deep
set_option linter.unusedVariables false
set_option maxRecDepth 10000
set_option linter.unusedSimpArgs false
section
variable {H:Type} {enc:TypeId × Value→H} {w:World} {base:Nat} {held:Bool}
theorem prog_trod {fuel:Nat} {v0 v1 v2 v3 v4 v5 v6 v7 v8 v9:Value} {d:DataW H × List MemPlace} (hf:DataW.trod enc Tryd.prog w base (fun _=>true) held fuel 26 [v0,v1,v2,v3,v4,v5,v6,v7,v8,v9]=some d):∃ (k od po:Int) (lp:Option Addr) (ln lcp:Nat) (tp:Option Addr) (tn tcp:Nat) (wp:Option Addr) (wn wcp:Nat) (sk fr to q:Int) (L:List Ln) (T:List Tk) (M:List Ln),[v0,v1,v2,v3,v4,v5,v6,v7,v8,v9]=[.int .u8 k,.int .u32 od,.int .u8 po,.slice lp ln lcp,.slice tp tn tcp,.slice wp wn wcp,.int .u8 sk,.int .u8 fr,.int .u8 to,.int .i64 q]∧Pgok ⟨k,od,po,L,T,M,sk,fr,to,q⟩∧PgM w lp ln lcp L tp tn tcp T wp wn wcp M:=by
 obtain⟨xs,n,_,_,hlen,hxl,hg⟩:=DataW.trod_struct Tryd.underlying26 hf
 have h10:xs.length=10:=hxl
 have t0:=hg 0 _ rfl
 have t1:=hg 1 _ rfl
 have t2:=hg 2 _ rfl
 have t3:=hg 3 _ rfl
 have t4:=hg 4 _ rfl
 have t5:=hg 5 _ rfl
 have t6:=hg 6 _ rfl
 have t7:=hg 7 _ rfl
 have t8:=hg 8 _ rfl
 have t9:=hg 9 _ rfl
 rw [List.getElem?_eq_getElem (by omega)] at t0 t1 t2 t3 t4 t5 t6 t7 t8 t9
 have e0:DataW.trod enc Tryd.prog w base (fun _=>true) held n 5 [v0]=some (xs[0]'(by omega)):=t0
 have e1:DataW.trod enc Tryd.prog w base (fun _=>true) held n 22 [v1]=some (xs[1]'(by omega)):=t1
 have e2:DataW.trod enc Tryd.prog w base (fun _=>true) held n 5 [v2]=some (xs[2]'(by omega)):=t2
 have e3:DataW.trod enc Tryd.prog w base (fun _=>true) held n 23 [v3]=some (xs[3]'(by omega)):=t3
 have e4:DataW.trod enc Tryd.prog w base (fun _=>true) held n 24 [v4]=some (xs[4]'(by omega)):=t4
 have e5:DataW.trod enc Tryd.prog w base (fun _=>true) held n 23 [v5]=some (xs[5]'(by omega)):=t5
 have e6:DataW.trod enc Tryd.prog w base (fun _=>true) held n 5 [v6]=some (xs[6]'(by omega)):=t6
 have e7:DataW.trod enc Tryd.prog w base (fun _=>true) held n 5 [v7]=some (xs[7]'(by omega)):=t7
 have e8:DataW.trod enc Tryd.prog w base (fun _=>true) held n 5 [v8]=some (xs[8]'(by omega)):=t8
 have e9:DataW.trod enc Tryd.prog w base (fun _=>true) held n 2 [v9]=some (xs[9]'(by omega)):=t9
 obtain⟨z0,hv0,_,wf0⟩:=DataW.trod_int Tryd.underlying5 e0
 obtain⟨z1,hv1,_,wf1⟩:=DataW.trod_int Tryd.underlying22 e1
 obtain⟨z2,hv2,_,wf2⟩:=DataW.trod_int Tryd.underlying5 e2
 obtain⟨z6,hv6,_,wf6⟩:=DataW.trod_int Tryd.underlying5 e6
 obtain⟨z7,hv7,_,wf7⟩:=DataW.trod_int Tryd.underlying5 e7
 obtain⟨z8,hv8,_,wf8⟩:=DataW.trod_int Tryd.underlying5 e8
 obtain⟨z9,hv9,_,wf9⟩:=DataW.trod_int Tryd.underlying2 e9
 simp at hv0 hv1 hv2 hv6 hv7 hv8 hv9
 subst hv0 hv1 hv2 hv6 hv7 hv8 hv9
 obtain⟨p3,n3,c3,rfl⟩:=z3z Tryd.underlying23 e3
 obtain⟨p4,n4,c4,rfl⟩:=z3z Tryd.underlying24 e4
 obtain⟨p5,n5,c5,rfl⟩:=z3z Tryd.underlying23 e5
 obtain⟨L,hL,hLok⟩:=open_lines e3
 obtain⟨T,hT,hTok⟩:=open_takes e4
 obtain⟨M,hM,hMok⟩:=open_lines e5
 exact⟨z0,z1,z2,p3,n3,c3,p4,n4,c4,p5,n5,c5,z6,z7,z8,z9,L,T,M,rfl,⟨bounds_u8 wf0,z4q wf1,bounds_u8 wf2,hLok,hTok,hMok,bounds_u8 wf6,bounds_u8 wf7,bounds_u8 wf8,bounds_i64 wf9⟩,⟨hL,hT,hM⟩⟩
end
theorem txnCells8:Tryd.prog.cellsOf 36=8:=by kernel_rfl
section
variable {H:Type} {enc:TypeId × Value→H} {w:World} {base:Nat} {held:Bool}
theorem txn_trod {fuel:Nat} {cs:List Value} {d:DataW H × List MemPlace} (h:DataW.trod enc Tryd.prog w base (fun _=>true) held fuel 36 cs=some d):∃ t:Tv,(TvM w t∧Tcok t.c)∧cs=tce t:=by
 obtain⟨xs,n,_,_,hlen,hxl,hg⟩:=DataW.trod_struct Tryd.underlying36 h
 rw [txnCells8] at hlen
 obtain⟨v0,v1,v2,v3,v4,v5,v6,v7,rfl⟩:∃ v0 v1 v2 v3 v4 v5 v6 v7,cs=[v0,v1,v2,v3,v4,v5,v6,v7]:=by
  match cs,hlen with
  | [a0,a1,a2,a3,a4,a5,a6,a7],_=>exact⟨a0,a1,a2,a3,a4,a5,a6,a7,rfl⟩
 have h8:xs.length=8:=hxl
 have t0:=hg 0 _ rfl
 have t1:=hg 1 _ rfl
 have t2:=hg 2 _ rfl
 have t3:=hg 3 _ rfl
 have t4:=hg 4 _ rfl
 have t5:=hg 5 _ rfl
 have t6:=hg 6 _ rfl
 have t7:=hg 7 _ rfl
 rw [List.getElem?_eq_getElem (by omega)] at t0 t1 t2 t3 t4 t5 t6 t7
 have e0:DataW.trod enc Tryd.prog w base (fun _=>true) held n 22 [v0]=some (xs[0]'(by omega)):=t0
 have e1:DataW.trod enc Tryd.prog w base (fun _=>true) held n 22 [v1]=some (xs[1]'(by omega)):=t1
 have e2:DataW.trod enc Tryd.prog w base (fun _=>true) held n 5 [v2]=some (xs[2]'(by omega)):=t2
 have e3:DataW.trod enc Tryd.prog w base (fun _=>true) held n 4 [v3]=some (xs[3]'(by omega)):=t3
 have e4:DataW.trod enc Tryd.prog w base (fun _=>true) held n 4 [v4]=some (xs[4]'(by omega)):=t4
 have e5:DataW.trod enc Tryd.prog w base (fun _=>true) held n 34 [v5]=some (xs[5]'(by omega)):=t5
 have e6:DataW.trod enc Tryd.prog w base (fun _=>true) held n 2 [v6]=some (xs[6]'(by omega)):=t6
 have e7:DataW.trod enc Tryd.prog w base (fun _=>true) held n 3 [v7]=some (xs[7]'(by omega)):=t7
 obtain⟨z0,hv0,_,wf0⟩:=DataW.trod_int Tryd.underlying22 e0
 obtain⟨z1,hv1,_,wf1⟩:=DataW.trod_int Tryd.underlying22 e1
 obtain⟨z2,hv2,_,wf2⟩:=DataW.trod_int Tryd.underlying5 e2
 obtain⟨z6,hv6,_,wf6⟩:=DataW.trod_int Tryd.underlying2 e6
 obtain⟨z7,hv7,_,wf7⟩:=DataW.trod_int Tryd.underlying3 e7
 obtain⟨z3,hv3,_⟩:=DataW.trod_bool Tryd.underlying4 e3
 obtain⟨z4,hv4,_⟩:=DataW.trod_bool Tryd.underlying4 e4
 simp at hv0 hv1 hv2 hv3 hv4 hv6 hv7
 subst hv0 hv1 hv2 hv3 hv4 hv6 hv7
 obtain⟨p5,n5,c5,rfl⟩:=z3z Tryd.underlying34 e5
 obtain⟨L,hL,hLok⟩:=open_ops e5
 exact⟨⟨⟨z0,z1,z2,z3,z4,L,z6,z7⟩,p5,n5,c5⟩,⟨hL,⟨z4q wf0,z4q wf1,bounds_u8 wf2,hLok,bounds_i64 wf6,bounds_i64 wf7⟩⟩,rfl⟩
end
theorem crsCells15:Tryd.prog.cellsOf 28=15:=by kernel_rfl
def CrsIn (w:World) (a:Array Value):Prop:=∃ (c:Cv) (L:List Ln) (T:List Tk) (M:List Ln),a=ccs c∧Crok (c.x L T M)∧CvM w c L T M
def TxnIn (w:World) (a:Array Value):Prop:=∃ t:Tv,a=#[.int .u32 t.c.id,.int .u32 t.c.sg,.int .u8 t.c.st,.bool t.c.cp,.bool t.c.dd,.slice t.p t.n t.m,.int .i64 t.c.fs,.int .i64 t.c.sz]∧Tcok t.c∧TvM w t
theorem crs_trod {H:Type} {enc:TypeId × Value→H} {w:World} {base:Nat} {held:Bool} {fuel:Nat} {cs:List Value} {d:DataW H × List MemPlace} (hf:DataW.trod enc Tryd.prog w base (fun _=>true) held fuel 28 cs=some d):∃ (c:Cv) (L:List Ln) (T:List Tk) (M:List Ln),cs=(ccs c).toList∧Crok (c.x L T M)∧CvM w c L T M:=by
 obtain⟨xs,n,_,_,hlen,hxl,hg⟩:=DataW.trod_struct Tryd.underlying28 hf
 rw [crsCells15] at hlen
 have h6:xs.length=6:=hxl
 obtain⟨v0,v1,v2,v3,v4,v5,v6,v7,v8,v9,v10,v11,v12,v13,v14,rfl⟩:∃ v0 v1 v2 v3 v4 v5 v6 v7 v8 v9 v10 v11 v12 v13 v14,cs=[v0,v1,v2,v3,v4,v5,v6,v7,v8,v9,v10,v11,v12,v13,v14]:=by
  match cs,hlen with
  | [a0,a1,a2,a3,a4,a5,a6,a7,a8,a9,a10,a11,a12,a13,a14],_=>exact⟨a0,a1,a2,a3,a4,a5,a6,a7,a8,a9,a10,a11,a12,a13,a14,rfl⟩
 have t0:=hg 0 _ rfl
 have t1:=hg 1 _ rfl
 have t2:=hg 2 _ rfl
 have t3:=hg 3 _ rfl
 have t4:=hg 4 _ rfl
 have t5:=hg 5 _ rfl
 rw [List.getElem?_eq_getElem (by omega)] at t0 t1 t2 t3 t4 t5
 have e0:DataW.trod enc Tryd.prog w base (fun _=>true) held n 22 [v0]=some (xs[0]'(by omega)):=t0
 have e1:DataW.trod enc Tryd.prog w base (fun _=>true) held n 26 [v1,v2,v3,v4,v5,v6,v7,v8,v9,v10]=some (xs[1]'(by omega)):=t1
 have e2:DataW.trod enc Tryd.prog w base (fun _=>true) held n 4 [v11]=some (xs[2]'(by omega)):=t2
 have e3:DataW.trod enc Tryd.prog w base (fun _=>true) held n 3 [v12]=some (xs[3]'(by omega)):=t3
 have e4:DataW.trod enc Tryd.prog w base (fun _=>true) held n 3 [v13]=some (xs[4]'(by omega)):=t4
 have e5:DataW.trod enc Tryd.prog w base (fun _=>true) held n 22 [v14]=some (xs[5]'(by omega)):=t5
 obtain⟨z0,hv0,_,wf0⟩:=DataW.trod_int Tryd.underlying22 e0
 obtain⟨z2,hv2,_⟩:=DataW.trod_bool Tryd.underlying4 e2
 obtain⟨z3,hv3,_,wf3⟩:=DataW.trod_int Tryd.underlying3 e3
 obtain⟨z4,hv4,_,wf4⟩:=DataW.trod_int Tryd.underlying3 e4
 obtain⟨z5,hv5,_,wf5⟩:=DataW.trod_int Tryd.underlying22 e5
 obtain⟨k,od,po,lp,ln,lcp,tp,tn,tcp,wp,wn,wcp,sk,fr,to,q,L,T,M,hpe,hpok,hpm⟩:=prog_trod e1
 simp at hv0 hv2 hv3 hv4 hv5
 simp only [List.cons.injEq,and_true] at hpe
 obtain⟨g0,g1,g2,g3,g4,g5,g6,g7,g8,g9⟩:=hpe
 subst hv0 hv2 hv3 hv4 hv5 g0 g1 g2 g3 g4 g5 g6 g7 g8 g9
 exact⟨⟨z0,⟨0,0,0,0,false,0,0,0,0,0,k,od,po,lp,ln,lcp,tp,tn,tcp,wp,wn,wcp,sk,fr,to,q⟩,z2,z3,z4,z5⟩,L,T,M,rfl,⟨z4q wf0,hpok,bounds_i64 wf3,bounds_i64 wf4,z4q wf5⟩,hpm⟩
theorem open_crs {H:Type} {enc:TypeId × Value→H} {w:World} {base b0:Nat} {held:Bool} {r:Reach} {v:Value} {d:DataW H} {p:List MemPlace}
 (hv:Value.okWide Tryd.prog w r b0 28 v) (h:DataW.Trod enc Tryd.prog w base (fun _=>true) held 28 v d p):∃ c,v=.agg c∧CrsIn w c:=by
 obtain⟨c,rfl,hsz⟩:=okWide_struct Tryd.underlying28 hv
 obtain⟨fuel,hf⟩:=h
 obtain⟨r,L,T,M,hcs,hok,hm⟩:=crs_trod hf
 exact⟨c,rfl,r,L,T,M,Array.ext' hcs,hok,hm⟩
theorem open_txn {H:Type} {enc:TypeId × Value→H} {w:World} {base b0:Nat} {held:Bool} {r:Reach} {v:Value} {d:DataW H} {p:List MemPlace}
 (hv:Value.okWide Tryd.prog w r b0 36 v) (h:DataW.Trod enc Tryd.prog w base (fun _=>true) held 36 v d p):∃ c,v=.agg c∧TxnIn w c:=by
 obtain⟨c,rfl,hsz⟩:=okWide_struct Tryd.underlying36 hv
 obtain⟨fuel,hf⟩:=h
 obtain⟨t,⟨hm,hok⟩,hcs⟩:=txn_trod hf
 exact⟨c,rfl,t,Array.ext' hcs,hok,hm⟩
def PairIn (w:World) (c:Array Value):Prop:=∃ x y:Int,c=#[.int .i64 x,.int .i64 y]∧(Lit.int .i64 x).wf=true∧(Lit.int .i64 y).wf=true
theorem pairCells2:Tryd.prog.cellsOf 49=2:=by kernel_rfl
theorem crLong1:Tryd.prog.cellsOf 2=1:=by kernel_rfl
theorem open_pair {H:Type} {enc:TypeId × Value→H} {w:World} {base b0:Nat} {spare:Nat→Bool} {held:Bool} {r:Reach} {v:Value} {d:DataW H} {p:List MemPlace}
 (hv:Value.okWide Tryd.prog w r b0 49 v) (h:DataW.Trod enc Tryd.prog w base spare held 49 v d p):∃ c,v=.agg c∧PairIn w c:=by
 simp only [Value.okWide,Tryd.underlying49] at hv
 obtain⟨c,rfl,hsz,_⟩:=hv
 rw [pairCells2] at hsz
 obtain⟨fuel,hf⟩:=h
 obtain⟨xs,n,_,_,_,hlen,hg⟩:=DataW.trod_array Tryd.underlying49 hf
 obtain⟨l⟩:=c
 match l,hsz with
 | [c0,c1],_ =>
  have g0:=hg 0 (by omega)
  have g1:=hg 1 (by omega)
  rw [crLong1,List.getElem?_eq_getElem (by omega)] at g0 g1
  simp only [Value.cells,Nat.zero_mul,Nat.one_mul,List.drop_zero,List.drop_succ_cons,List.take_succ_cons,List.take_zero] at g0 g1
  obtain⟨z0,hv0,_,wf0⟩:=DataW.trod_int Tryd.underlying2 g0
  obtain⟨z1,hv1,_,wf1⟩:=DataW.trod_int Tryd.underlying2 g1
  simp at hv0 hv1
  subst hv0 hv1
  exact⟨_,rfl,z0,z1,rfl,wf0,wf1⟩
end Go.Proofs.YtnpjpelbcmgodaaDoor
