import Derived.Test.YtnpjpelbcmgodaaDoorPC35
import Derived.Test.YtnpjpelbcmgodaaDoorPC34
namespace Go.Proofs.YtnpjpelbcmgodaaDoor
open Go.Lib (hid)
set_option maxHeartbeats 16000000
open Go.RowKit Go.ChangeShapes Go.WideShapes
set_option linter.unusedVariables false
set_option linter.unusedSimpArgs false
set_option maxRecDepth 10000
theorem cr_rfits (c:Cv) (L:List Ln) (T:List Tk) (M:List Ln) (W:World) (hP:CvM W c L T M) (hok:Crok (c.x L T M)) (h1:c.p.ln≤400∧c.p.tn≤400∧c.p.wn≤400) (hg:z1y (c.x L T M)=true) (r:Rv) (La:List Ln) (Ta:List Tk) (Ma:List Ln) (hst:0≤r.st∧r.st≤255):Calls Tryd.prog 36 #[.agg (ccs c),.agg (rcs r)] W fun e w'=>e=.returned (.bool (z3y (c.x L T M) (r.x La Ta Ma)))∧Below W.heap.size W w':=by
 obtain⟨W1,hW1,hx,hy,hb1⟩:∃ W1,(W.alloc (.cells (ccs c) 28)).alloc (.cells (rcs r) 32)=W1∧CB W1 W.heap.size c∧RB W1 (W.heap.size+1) r∧Below W.heap.size W W1:=z8g W c r
 obtain⟨B,hB⟩:∃ B,W.heap.size=B:=⟨_,rfl⟩
 rw [hB] at hx hy
 have HX:=hid hx
 have HY:=hid hy
 have HW1:=hid hW1
 have HB1:=hid hb1
 have HRE:=hid hB
 have hl:=z3s hg hok.P
 obtain⟨_,_,g3,g4,_⟩:=z1x hg
 have g3':0≤c.st:=g3
 have g4':c.st≤lenC (c.x L T M):=g4
 have hwr:IntKind.i64.wrap r.st=r.st:=IntWalk.i64_in _ (by omega)
 have hws:IntKind.i64.wrap (c.st-1)=c.st-1:=IntWalk.i64_in _ (by omega)
 have HS:Hid (Calls Tryd.prog 41 #[.agg (pcs c.p)] W1 (GivesS W1 (z0r (c.p.pg L T M)))):=hid (rsteps_p c.p.pk c.p.od c.p.po c.p.lp c.p.ln c.p.lcp c.p.tp c.p.tn c.p.tcp c.p.wp c.p.wn c.p.wcp c.p.sk c.p.fr c.p.to c.p.q L T M W1 (hP.later hb1) hok.P ⟨by omega,by omega,by omega⟩)
 have HF0:Hid (z3y (c.x L T M) (r.x La Ta Ma)=(if r.k=2 then (if c.bk then ((c.tx==0) && (r.sg==c.sg)) && r.cp && (r.st==c.st-1) else ((c.tx==0) && (r.sg==c.sg)) && !r.cp && (r.st==c.st) && decide (c.st<((z0r (c.p.pg L T M)).length:Int)))
 else if r.k=3∨r.k=4∨r.k=6∨r.k=7 then (r.tx==c.tx)
 else if r.k=5 then (r.tx==c.tx) && !c.bk
 else if r.k=8 then ((c.tx==0) && (r.sg==c.sg)) && !c.bk
 else if r.k=9 then (if r.o=1 then ((c.tx==0) && (r.sg==c.sg)) && !c.bk && (c.st==((z0r (c.p.pg L T M)).length:Int)) else ((c.tx==0) && (r.sg==c.sg)) && c.bk && (c.st==0))
 else false)):=hid rfl
 generalize z3y (c.x L T M) (r.x La Ta Ma)=F at *
 obtain⟨S,hS⟩:∃ S,z0r (c.p.pg L T M)=S:=⟨_,rfl⟩
 rw [hS] at HS HF0
 obtain⟨n,hn⟩:∃ n,S.length=n:=⟨_,rfl⟩
 rw [hn] at HF0
 have HN:=hid hn
 obtain⟨fr,hfr⟩:∃ a,((c.tx==0) && (r.sg==c.sg))=a:=⟨_,rfl⟩
 obtain⟨mi,hmi⟩:∃ a,(r.tx==c.tx)=a:=⟨_,rfl⟩
 rw [hfr,hmi] at HF0
 have HFR:=hid hfr
 have HMI:=hid hmi
 clear hW1 hx hy hb1 hB hP hok h1 hg hfr hmi hst g3 g4 g3' g4' hl hS hn
 go_enter Tryd.func36,Tryd.ntmps36
 go_upto_region 1 with (fail)
 rw [HW1.out,HRE.out]
 go_wp2_with ((with_reducible refine z2h HX.out ?_ ?_);rfl)
 refine HS.out.mono ?_
 rintro e w2 ⟨p2,c2,H2,rfl,hs2,h2⟩
 have HX2:=hid (HX.out.later h2)
 have HY2:=hid (HY.out.later h2)
 have HB2:=hid (HB1.out.trans (h2.mono HB1.out.size))
 clear h2 hs2 HX HY HS HB1
 simp only [HN.out]
 obtain⟨e0,c11,c12,c13,e14⟩:=HX2.out.at
 have f1:=HY2.out.at.2.1
 have f2:=HY2.out.at.2.2.1
 go_upto_region 3 with (fail)
 rw [HMI.out]
 go_cut [7] from 8 (fun s7 wx=>s7=.bool fr∧wx=w2)
 case first =>
  cases q1:(c.tx==0)
  all_goals
   go_wp2_with fail
   go_meet
   refine⟨?_,rfl⟩
   rw [← HFR.out,q1]
   rfl
 case rest =>
 obtain⟨rfl,rfl⟩:=hcut
 have y0:=z0a (j:=0) HY2.out (v:=.int .u8 r.k) rfl
 have y3:=z0a (j:=3) HY2.out (v:=.int .u8 r.st) rfl
 have y4:=z0a (j:=4) HY2.out (v:=.bool r.cp) rfl
 have y9:=z0a (j:=9) HY2.out (v:=.int .u8 r.o) rfl
 clear e0 e14 f1 f2 c13
 by_cases hk:r.k=2
 · have HF:Hid (F=(if c.bk then fr && r.cp && (r.st==c.st-1) else fr && !r.cp && (r.st==c.st) && decide (c.st<(n:Int)))):=hid (by rw [HF0.out,hk];rfl)
   rw [hk] at y0
   clear hk HF0
   cases qb:c.bk
   case false =>
    rw [qb] at c11 HF
    cases fr <;> cases qc:r.cp <;> cases qs:(r.st==c.st)
    all_goals
     rw [qc] at y4
     go_wp2_with fail
     go_ret
     exact⟨by rw [HF.out];simp [*],HB2.out⟩
   case true =>
    rw [qb] at c11 HF
    cases fr <;> cases qc:r.cp
    all_goals
     rw [qc] at y4
     go_wp2_with fail
     go_ret
     exact⟨by rw [HF.out];simp [*],HB2.out⟩
 by_cases hk:r.k=3
 · have HF:Hid (F=mi):=hid (by rw [HF0.out,hk];rfl)
   rw [hk] at y0
   clear hk HF0
   go_wp2_with fail
   go_ret
   exact⟨by rw [HF.out];simp [*],HB2.out⟩
 by_cases hk:r.k=4
 · have HF:Hid (F=mi):=hid (by rw [HF0.out,hk];rfl)
   rw [hk] at y0
   clear hk HF0
   go_wp2_with fail
   go_ret
   exact⟨by rw [HF.out];simp [*],HB2.out⟩
 by_cases hk:r.k=6
 · have HF:Hid (F=mi):=hid (by rw [HF0.out,hk];rfl)
   rw [hk] at y0
   clear hk HF0
   go_wp2_with fail
   go_ret
   exact⟨by rw [HF.out];simp [*],HB2.out⟩
 by_cases hk:r.k=7
 · have HF:Hid (F=mi):=hid (by rw [HF0.out,hk];rfl)
   rw [hk] at y0
   clear hk HF0
   go_wp2_with fail
   go_ret
   exact⟨by rw [HF.out];simp [*],HB2.out⟩
 by_cases hk:r.k=5
 · have HF:Hid (F=(mi && !c.bk)):=hid (by rw [HF0.out,hk];rfl)
   rw [hk] at y0
   clear hk HF0
   cases mi
   all_goals
    go_wp2_with fail
    go_ret
    exact⟨by rw [HF.out];simp [*],HB2.out⟩
 by_cases hk:r.k=8
 · have HF:Hid (F=(fr && !c.bk)):=hid (by rw [HF0.out,hk];rfl)
   rw [hk] at y0
   clear hk HF0
   cases fr
   all_goals
    go_wp2_with fail
    go_ret
    exact⟨by rw [HF.out];simp [*],HB2.out⟩
 by_cases hk:r.k=9
 · have HF:Hid (F=(if r.o=1 then fr && !c.bk && (c.st==(n:Int)) else fr && c.bk && (c.st==0))):=hid (by rw [HF0.out,hk];rfl)
   rw [hk] at y0
   clear hk HF0
   by_cases ho:r.o=1
   · rw [ho] at y9 HF
     clear ho
     cases fr <;> cases qb:c.bk
     all_goals
      rw [qb] at c11
      go_wp2_with fail
      go_ret
      exact⟨by rw [HF.out];simp [*],HB2.out⟩
   · have b1:(r.o==1)=false:=beq_false_of_ne ho
     have HF2:Hid (F=(fr && c.bk && (c.st==0))):=hid (by rw [HF.out,if_neg ho])
     clear HF ho
     have HF:=HF2
     cases fr <;> cases qb:c.bk
     all_goals
      rw [qb] at c11
      go_wp2_with fail
      go_ret
      exact⟨by rw [HF.out];simp [*],HB2.out⟩
 rename_i n2 n3 n4 n6 n7 n5 n8
 have HF:Hid (F=false):=hid (by rw [HF0.out,if_neg n2,if_neg (by omega),if_neg n5,if_neg n8,if_neg hk])
 have b2:(r.k==2)=false:=beq_false_of_ne n2
 have b3:(r.k==3)=false:=beq_false_of_ne n3
 have b6:(r.k==6)=false:=beq_false_of_ne n6
 have b7:(r.k==7)=false:=beq_false_of_ne n7
 have b4:(r.k==4)=false:=beq_false_of_ne n4
 have b5:(r.k==5)=false:=beq_false_of_ne n5
 have b8:(r.k==8)=false:=beq_false_of_ne n8
 have b9:(r.k==9)=false:=beq_false_of_ne hk
 clear HF0 n2 n3 n4 n5 n6 n7 n8 hk
 go_wp2_with fail
 go_ret
 exact⟨by rw [HF.out];rfl,HB2.out⟩
def rm (k sg tx st:Int) (cp:Bool) (ka kb kc d o:Int):Rv:=⟨k,sg,tx,st,cp,ka,kb,kc,d,o,0,0,0,none,0,0,none,0,0,none,0,0,0,0,0,0⟩
theorem z3l (k sg tx st:Int) (cp:Bool) (ka kb kc d o:Int) (w:World):RvM w (rm k sg tx st cp ka kb kc d o) [] [] []:=no_lists ⟨rfl,rfl,rfl,rfl,rfl,rfl,rfl,rfl,rfl⟩ w
theorem put_ky (r:Rv) (a b c:Int):z5u (rcs r) 5 [.int .u8 a,.int .u8 b,.int .u8 c]=rcs { r with ka:=a,kb:=b,kc:=c }:=by simp [z5u,rcs]
theorem wpList_store_ky (a b c:Int) {ops:Array Oper} {rest:List Oper} {ac:Act} {w:World} {Q:Exit→Act→World→Prop} {dst:Option Tmp} {x y:Operand} {ty:TypeId} {pos:String} {after:Array Edge} {B:Nat} {r:Rv} (hB:RB w B r)
 (hx:ac.eval x=.pointer (some ⟨B,5,none⟩)) (hy:ac.eval y=.agg #[.int .u8 a,.int .u8 b,.int .u8 c])
 (h:wpList Tryd.prog ops Q rest (ac.put dst undef) (w.setRow B (rcs { r with ka:=a,kb:=b,kc:=c }))):wpList Tryd.prog ops Q (Oper.mk dst (.store 30 x y) ty pos after none::rest) ac w :=
 z2p rfl 30 x y rfl B 5 #[.int .u8 a,.int .u8 b,.int .u8 c] hx hy 32 (rcs r) hB (by kernel_rfl) (by show 5+3≤20;omega) (by simp [Value.oneCell']) (by rw [show (#[.int .u8 a,.int .u8 b,.int .u8 c]:Array Value).toList=[.int .u8 a,.int .u8 b,.int .u8 c] from rfl,put_ky];exact h)
theorem two_recs (W:World) (r r':Rv):∃ W1,(W.alloc (.cells (rcs r) 32)).alloc (.cells (rcs r') 32)=W1∧RB W1 W.heap.size r∧RB W1 (W.heap.size+1) r'∧Below W.heap.size W W1:=by
 refine⟨_,rfl,?_,?_,((Below.refl _ _).alloc (Nat.le_refl _) _).alloc (by simp) _⟩
 · exact (Below.heap_alloc _ _ _ (by simp)).trans (z0d W _)
 · have:=z0d (W.alloc (.cells (rcs r) 32)) (.cells (rcs r') 32)
   rw [World.size_alloc] at this
   exact this
theorem rx_eq (r r':Rv) (L:List Ln) (T:List Tk) (M:List Ln) (L':List Ln) (T':List Tk) (M':List Ln):decide (r.x L T M=r'.x L' T' M')=(r.k==r'.k && r.sg==r'.sg && r.tx==r'.tx && r.st==r'.st && r.cp==r'.cp && decide (((r.ka,r.kb,r.kc):K)=(r'.ka,r'.kb,r'.kc)) && r.d==r'.d && r.o==r'.o && decide (r.pg L T M=r'.pg L' T' M')):=by
 rw [Bool.eq_iff_iff]
 simp only [decide_eq_true_eq,Bool.and_eq_true,beq_iff_eq]
 constructor
 · intro h
   refine⟨⟨⟨⟨⟨⟨⟨⟨?_,?_⟩,?_⟩,?_⟩,?_⟩,?_⟩,?_⟩,?_⟩,?_⟩
   · exact congrArg Rx.k h
   · exact congrArg Rx.sg h
   · exact congrArg Rx.tx h
   · exact congrArg Rx.st h
   · exact congrArg Rx.cp h
   · exact congrArg Rx.key h
   · exact congrArg Rx.d h
   · exact congrArg Rx.o h
   · exact congrArg Rx.pg h
 · rintro ⟨⟨⟨⟨⟨⟨⟨⟨h1,h2⟩,h3⟩,h4⟩,h5⟩,h6⟩,h7⟩,h8⟩,h9⟩
   unfold Rv.x
   rw [h1,h2,h3,h4,h5,h6,h7,h8,h9]
theorem z2n (r r':Rv) (L:List Ln) (T:List Tk) (M:List Ln) (L':List Ln) (T':List Tk) (M':List Ln) (W:World) (hP:RvM W r L T M) (hP':RvM W r' L' T' M') (h1:r.ln≤1000∧r.tn≤1000∧r.wn≤1000) (h2:r'.ln≤1000∧r'.tn≤1000∧r'.wn≤1000):Calls Tryd.prog 16 #[.agg (rcs r),.agg (rcs r')] W fun e w'=>e=.returned (.bool (decide (r.x L T M=r'.x L' T' M')))∧Below W.heap.size W w':=by
 obtain⟨W1,hW1,hx,hx',hb1⟩:=two_recs W r r'
 have HP:=hid (hP.later hb1)
 have HP':=hid (hP'.later hb1)
 have hpp:=z4d r.pk r.od r.po r.lp r.ln r.lcp r.tp r.tn r.tcp r.wp r.wn r.wcp r.sk r.fr r.to r.q r'.pk r'.od r'.po r'.lp r'.ln r'.lcp r'.tp r'.tn r'.tcp r'.wp r'.wn r'.wcp r'.sk r'.fr r'.to r'.q L T M L' T' M' W1 HP.out HP'.out h1 h2
 have hkk:=fun w=>key_eql r.ka r.kb r.kc r'.ka r'.kb r'.kc w
 obtain⟨y,hy⟩:∃ y,decide (((r.ka,r.kb,r.kc):K)=(r'.ka,r'.kb,r'.kc))=y:=⟨_,rfl⟩
 obtain⟨z,hz⟩:∃ z,decide (r.pg L T M=r'.pg L' T' M')=z:=⟨_,rfl⟩
 have hz':decide ((⟨r.pk,r.od,r.po,L,T,M,r.sk,r.fr,r.to,r.q⟩:Pg)=⟨r'.pk,r'.od,r'.po,L',T',M',r'.sk,r'.fr,r'.to,r'.q⟩)=z:=hz
 rw [hz'] at hpp
 rw [hy] at hkk
 have HA:=hid (rx_eq r r' L T M L' T' M')
 rw [hy,hz] at HA
 have HX:=hid hx
 have HX':=hid hx'
 have HW1:=hid hW1
 have HB1:=hid hb1
 have c0:W1.cell? ⟨W.heap.size,0,none⟩=some (.int .u8 r.k):=z0a hx rfl
 have d0:W1.cell? ⟨W.heap.size+1,0,none⟩=some (.int .u8 r'.k):=z0a hx' rfl
 have c1:W1.cell? ⟨W.heap.size,1,none⟩=some (.int .u32 r.sg):=z0a hx rfl
 have d1:W1.cell? ⟨W.heap.size+1,1,none⟩=some (.int .u32 r'.sg):=z0a hx' rfl
 have c2:W1.cell? ⟨W.heap.size,2,none⟩=some (.int .u32 r.tx):=z0a hx rfl
 have d2:W1.cell? ⟨W.heap.size+1,2,none⟩=some (.int .u32 r'.tx):=z0a hx' rfl
 have c3:W1.cell? ⟨W.heap.size,3,none⟩=some (.int .u8 r.st):=z0a hx rfl
 have d3:W1.cell? ⟨W.heap.size+1,3,none⟩=some (.int .u8 r'.st):=z0a hx' rfl
 have c4:W1.cell? ⟨W.heap.size,4,none⟩=some (.bool r.cp):=z0a hx rfl
 have d4:W1.cell? ⟨W.heap.size+1,4,none⟩=some (.bool r'.cp):=z0a hx' rfl
 have c8:W1.cell? ⟨W.heap.size,8,none⟩=some (.int .i64 r.d):=z0a hx rfl
 have d8:W1.cell? ⟨W.heap.size+1,8,none⟩=some (.int .i64 r'.d):=z0a hx' rfl
 have c9:W1.cell? ⟨W.heap.size,9,none⟩=some (.int .u8 r.o):=z0a hx rfl
 have d9:W1.cell? ⟨W.heap.size+1,9,none⟩=some (.int .u8 r'.o):=z0a hx' rfl
 clear hW1 hx hx' hb1 hP hP' h1 h2 hy hz hz'
 cases qk:(r.k==r'.k)
 case false =>
  go_enter Tryd.func16,Tryd.ntmps16
  go_upto_region 1 with (fail)
  rw [HW1.out]
  go_wp2_with (first | ((with_reducible refine z0g HX.out ?_ ?_ ?_);rfl;rfl) | ((with_reducible refine z0g HX'.out ?_ ?_ ?_);rfl;rfl) | ((with_reducible refine z0f HX.out ?_ ?_ ?_);rfl;rfl) | ((with_reducible refine z0f HX'.out ?_ ?_ ?_);rfl;rfl))
  go_ret
  exact⟨by rw [HA.out,qk];rfl,HB1.out⟩
 cases qsg:(r.sg==r'.sg)
 case false =>
  go_enter Tryd.func16,Tryd.ntmps16
  go_upto_region 1 with (fail)
  rw [HW1.out]
  go_wp2_with (first | ((with_reducible refine z0g HX.out ?_ ?_ ?_);rfl;rfl) | ((with_reducible refine z0g HX'.out ?_ ?_ ?_);rfl;rfl) | ((with_reducible refine z0f HX.out ?_ ?_ ?_);rfl;rfl) | ((with_reducible refine z0f HX'.out ?_ ?_ ?_);rfl;rfl))
  go_ret
  exact⟨by rw [HA.out,qk,qsg];rfl,HB1.out⟩
 cases qtx:(r.tx==r'.tx)
 case false =>
  go_enter Tryd.func16,Tryd.ntmps16
  go_upto_region 1 with (fail)
  rw [HW1.out]
  go_wp2_with (first | ((with_reducible refine z0g HX.out ?_ ?_ ?_);rfl;rfl) | ((with_reducible refine z0g HX'.out ?_ ?_ ?_);rfl;rfl) | ((with_reducible refine z0f HX.out ?_ ?_ ?_);rfl;rfl) | ((with_reducible refine z0f HX'.out ?_ ?_ ?_);rfl;rfl))
  go_ret
  exact⟨by rw [HA.out,qk,qsg,qtx];rfl,HB1.out⟩
 cases qst:(r.st==r'.st)
 case false =>
  go_enter Tryd.func16,Tryd.ntmps16
  go_upto_region 1 with (fail)
  rw [HW1.out]
  go_wp2_with (first | ((with_reducible refine z0g HX.out ?_ ?_ ?_);rfl;rfl) | ((with_reducible refine z0g HX'.out ?_ ?_ ?_);rfl;rfl) | ((with_reducible refine z0f HX.out ?_ ?_ ?_);rfl;rfl) | ((with_reducible refine z0f HX'.out ?_ ?_ ?_);rfl;rfl))
  go_ret
  exact⟨by rw [HA.out,qk,qsg,qtx,qst];rfl,HB1.out⟩
 cases qcp:(r.cp==r'.cp)
 case false =>
  go_enter Tryd.func16,Tryd.ntmps16
  go_upto_region 1 with (fail)
  rw [HW1.out]
  go_wp2_with (first | ((with_reducible refine z0g HX.out ?_ ?_ ?_);rfl;rfl) | ((with_reducible refine z0g HX'.out ?_ ?_ ?_);rfl;rfl) | ((with_reducible refine z0f HX.out ?_ ?_ ?_);rfl;rfl) | ((with_reducible refine z0f HX'.out ?_ ?_ ?_);rfl;rfl))
  go_ret
  exact⟨by rw [HA.out,qk,qsg,qtx,qst,qcp];rfl,HB1.out⟩
 cases y
 case false =>
  go_enter Tryd.func16,Tryd.ntmps16
  go_upto_region 1 with (fail)
  rw [HW1.out]
  go_wp2_with (first | ((with_reducible refine z0g HX.out ?_ ?_ ?_);rfl;rfl) | ((with_reducible refine z0g HX'.out ?_ ?_ ?_);rfl;rfl) | ((with_reducible refine z0f HX.out ?_ ?_ ?_);rfl;rfl) | ((with_reducible refine z0f HX'.out ?_ ?_ ?_);rfl;rfl))
  go_ret
  exact⟨by rw [HA.out,qk,qsg,qtx,qst,qcp];rfl,HB1.out⟩
 cases qd:(r.d==r'.d)
 case false =>
  go_enter Tryd.func16,Tryd.ntmps16
  go_upto_region 1 with (fail)
  rw [HW1.out]
  go_wp2_with (first | ((with_reducible refine z0g HX.out ?_ ?_ ?_);rfl;rfl) | ((with_reducible refine z0g HX'.out ?_ ?_ ?_);rfl;rfl) | ((with_reducible refine z0f HX.out ?_ ?_ ?_);rfl;rfl) | ((with_reducible refine z0f HX'.out ?_ ?_ ?_);rfl;rfl))
  go_ret
  exact⟨by rw [HA.out,qk,qsg,qtx,qst,qcp,qd];rfl,HB1.out⟩
 cases qo:(r.o==r'.o)
 case false =>
  go_enter Tryd.func16,Tryd.ntmps16
  go_upto_region 1 with (fail)
  rw [HW1.out]
  go_wp2_with (first | ((with_reducible refine z0g HX.out ?_ ?_ ?_);rfl;rfl) | ((with_reducible refine z0g HX'.out ?_ ?_ ?_);rfl;rfl) | ((with_reducible refine z0f HX.out ?_ ?_ ?_);rfl;rfl) | ((with_reducible refine z0f HX'.out ?_ ?_ ?_);rfl;rfl))
  go_ret
  exact⟨by rw [HA.out,qk,qsg,qtx,qst,qcp,qd,qo];rfl,HB1.out⟩
 go_enter Tryd.func16,Tryd.ntmps16
 go_upto_region 1 with (fail)
 rw [HW1.out]
 go_wp2_with (first | ((with_reducible refine z0g HX.out ?_ ?_ ?_);rfl;rfl) | ((with_reducible refine z0g HX'.out ?_ ?_ ?_);rfl;rfl) | ((with_reducible refine z0f HX.out ?_ ?_ ?_);rfl;rfl) | ((with_reducible refine z0f HX'.out ?_ ?_ ?_);rfl;rfl))
 refine hpp.mono ?_
 rintro e w2 ⟨rfl,h2⟩
 have HB2:=hid (HB1.out.trans (h2.mono HB1.out.size))
 clear h2 hpp c0 d0 c1 d1 c2 d2 c3 d3 c4 d4 c8 d8 c9 d9
 go_wp2_with fail
 go_ret
 exact⟨by rw [HA.out,qk,qsg,qtx,qst,qcp,qd,qo];rfl,HB2.out⟩
theorem gk1 (sg tx st:Int) (cp:Bool) (key:K) (d o:Int) (pg:Pg):z1f ⟨1,sg,tx,st,cp,key,d,o,pg⟩=((sg != 0) && z0m 4 4 pg && decide ((⟨1,sg,tx,st,cp,key,d,o,pg⟩:Rx)=⟨1,sg,0,0,false,(0,0,0),0,0,pg⟩)):=by
 rw [Bool.eq_iff_iff]
 simp [z1f,kOk,kS,kT,kB,kA,kO,kP,z4y,addB,outB,z5v]
 grind
theorem gk2 (sg tx st:Int) (cp:Bool) (key:K) (d o:Int) (pg:Pg):z1f ⟨2,sg,tx,st,cp,key,d,o,pg⟩=((sg != 0) && (tx != 0) && decide (st<5) && decide ((⟨2,sg,tx,st,cp,key,d,o,pg⟩:Rx)=⟨2,sg,tx,st,cp,(0,0,0),0,0,noP⟩)):=by
 rw [Bool.eq_iff_iff]
 simp [z1f,kOk,kS,kT,kB,kA,kO,kP,z4y,addB,outB,z5v]
 grind
theorem gk3 (sg tx st:Int) (cp:Bool) (key:K) (d o:Int) (pg:Pg) (hd:In64 d):z1f ⟨3,sg,tx,st,cp,key,d,o,pg⟩=((tx != 0) && z3c 4 4 key.1 key.2.1 key.2.2 && (d != 0) && decide (-9223372036854775807≤d) && decide ((⟨3,sg,tx,st,cp,key,d,o,pg⟩:Rx)=⟨3,0,tx,0,false,key,d,0,noP⟩)):=by
 have h1:=hd.1
 have h2:(d != -9223372036854775808)=decide (-9223372036854775807≤d):=by
  rw [Bool.eq_iff_iff];simp;omega
 rw [Bool.eq_iff_iff]
 simp [z1f,kOk,kS,kT,kB,kA,kO,kP,z4y,addB,outB,z5v,h2]
 grind
theorem gk6 (sg tx st:Int) (cp:Bool) (key:K) (d o:Int) (pg:Pg) (hd:In64 d):z1f ⟨6,sg,tx,st,cp,key,d,o,pg⟩=((tx != 0) && z3c 4 4 key.1 key.2.1 key.2.2 && (d != 0) && decide (-9223372036854775807≤d) && decide ((⟨6,sg,tx,st,cp,key,d,o,pg⟩:Rx)=⟨6,0,tx,0,false,key,d,0,noP⟩)):=by
 have h1:=hd.1
 have h2:(d != -9223372036854775808)=decide (-9223372036854775807≤d):=by
  rw [Bool.eq_iff_iff];simp;omega
 rw [Bool.eq_iff_iff]
 simp [z1f,kOk,kS,kT,kB,kA,kO,kP,z4y,addB,outB,z5v,h2]
 grind
theorem gk4 (k sg tx st:Int) (cp:Bool) (key:K) (d o:Int) (pg:Pg) (hk:k=4∨k=5∨k=7):z1f ⟨k,sg,tx,st,cp,key,d,o,pg⟩=((tx != 0) && decide ((⟨k,sg,tx,st,cp,key,d,o,pg⟩:Rx)=⟨k,0,tx,0,false,(0,0,0),0,0,noP⟩)):=by
 rw [Bool.eq_iff_iff]
 rcases hk with rfl | rfl | rfl <;> simp [z1f,kOk,kS,kT,kB,kA,kO,kP,z4y,addB,outB,z5v] <;> grind
theorem gk8 (sg tx st:Int) (cp:Bool) (key:K) (d o:Int) (pg:Pg):z1f ⟨8,sg,tx,st,cp,key,d,o,pg⟩=((sg != 0) && decide ((⟨8,sg,tx,st,cp,key,d,o,pg⟩:Rx)=⟨8,sg,0,0,false,(0,0,0),0,0,noP⟩)):=by
 rw [Bool.eq_iff_iff]
 simp [z1f,kOk,kS,kT,kB,kA,kO,kP,z4y,addB,outB,z5v]
 grind
theorem gk9 (sg tx st:Int) (cp:Bool) (key:K) (d o:Int) (pg:Pg):z1f ⟨9,sg,tx,st,cp,key,d,o,pg⟩=((sg != 0) && ((o==1) || (o==2)) && decide ((⟨9,sg,tx,st,cp,key,d,o,pg⟩:Rx)=⟨9,sg,0,0,false,(0,0,0),0,o,noP⟩)):=by
 rw [Bool.eq_iff_iff]
 simp [z1f,kOk,kS,kT,kB,kA,kO,kP,z4y,addB,outB,z5v]
 grind
end Go.Proofs.YtnpjpelbcmgodaaDoor
