import Derived.Test.YtfdgnniicjdjdaaGreatDoorPY41
import Derived.Test.YtfdgnniicjdjdaaGreatDoorPY47
namespace Go.Proofs.YtfdgnniicjdjdaaGreatDoor
open Go.Lib (hid)
set_option maxHeartbeats 16000000
open Go.RowKit Go.ChangeShapes Go.WideShapes
set_option linter.unusedVariables false
set_option linter.unusedSimpArgs false
set_option maxRecDepth 10000
def rm (k sg tx st:Int) (cp:Bool) (ka kb kc d o:Int):Rv:=⟨k,sg,tx,st,cp,ka,kb,kc,d,o,0,0,0,none,0,0,none,0,0,none,0,0,0,0,0,0⟩
theorem z4o (k sg tx st:Int) (cp:Bool) (ka kb kc d o:Int) (w:World):RvM w (rm k sg tx st cp ka kb kc d o) [] [] []:=no_lists ⟨rfl,rfl,rfl,rfl,rfl,rfl,rfl,rfl,rfl⟩ w
theorem put_ky (r:Rv) (a b c:Int):z8f (rcs r) 5 [.int .u8 a,.int .u8 b,.int .u8 c]=rcs { r with ka:=a,kb:=b,kc:=c }:=by simp [z8f,rcs]
theorem wpList_store_ky (a b c:Int) {ops:Array Oper} {rest:List Oper} {ac:Act} {w:World} {Q:Exit→Act→World→Prop} {dst:Option Tmp} {x y:Operand} {ty:TypeId} {pos:String} {after:Array Edge} {B:Nat} {r:Rv} (hB:RB w B r)
 (hx:ac.eval x=.pointer (some ⟨B,5,none⟩)) (hy:ac.eval y=.agg #[.int .u8 a,.int .u8 b,.int .u8 c])
 (h:wpList Tryz.prog ops Q rest (ac.put dst undef) (w.setRow B (rcs { r with ka:=a,kb:=b,kc:=c }))):wpList Tryz.prog ops Q (Oper.mk dst (.store 45 x y) ty pos after none::rest) ac w :=
 z3n rfl 45 x y rfl B 5 #[.int .u8 a,.int .u8 b,.int .u8 c] hx hy 51 (rcs r) hB (by kernel_rfl) (by show 5+3≤20;omega) (by simp [Value.oneCell']) (by rw [show (#[.int .u8 a,.int .u8 b,.int .u8 c]:Array Value).toList=[.int .u8 a,.int .u8 b,.int .u8 c] from rfl,put_ky];exact h)
theorem sp2 {S:St} (hB:∀ y∈S.2,y<256) (h:(numR S 2).1.1=0):S.1=0∧S.2=le (numR S 2).2 2++(numR S 2).1.2:=numR_split hB (n:=2) (by omega) (by omega) h
end Go.Proofs.YtfdgnniicjdjdaaGreatDoor
namespace Go.Proofs.YtfdgnniicjdjdaaGreatDoor
open Go.Lib (hid)
set_option maxHeartbeats 16000000
set_option linter.unusedVariables false
set_option maxRecDepth 10000
def frmX (X:Rx):List Nat:=frm (z0n X)
theorem z8o (X:Rx):(frmX X).length=6+(z0n X).length:=frm_len _
theorem z5w {X:Rx} (h:z1k X=true):good (z0n X)=true∧5≤(z0n X).length∧(z0n X).length≤407:=by
 have hk:=z9b h
 have hl:=bytes_len hk
 have hp:=z7w h
 have h1:X.k=1→(z1x X.pg).length≤400:=fun e=>by
  rw [e] at hp
  exact q1v hp
 have h2:5≤(z0n X).length∧(z0n X).length≤407:=by
  rw [hl]
  unfold lenK
  by_cases e:X.k=1
  · have:=h1 e
    rw [if_pos e,if_pos e]
    omega
  · rw [if_neg e,if_neg e]
    repeat' split
    all_goals omega
 exact⟨(z5u _).2 ⟨by omega,by omega⟩,h2⟩
end Go.Proofs.YtfdgnniicjdjdaaGreatDoor
namespace Go.Proofs.YtfdgnniicjdjdaaGreatDoor
open Go.Lib (hid)
set_option maxHeartbeats 16000000
open Go.RowKit Go.ChangeShapes Go.WideShapes
set_option linter.unusedVariables false
set_option linter.unusedSimpArgs false
set_option maxRecDepth 10000
theorem two_recs (W:World) (r r':Rv):∃ W1,(W.alloc (.cells (rcs r) 51)).alloc (.cells (rcs r') 51)=W1∧RB W1 W.heap.size r∧RB W1 (W.heap.size+1) r'∧Below W.heap.size W W1:=by
 refine⟨_,rfl,?_,?_,((Below.refl _ _).alloc (Nat.le_refl _) _).alloc (by simp) _⟩
 · exact (Below.heap_alloc _ _ _ (by simp)).trans (z0e W _)
 · have:=z0e (W.alloc (.cells (rcs r) 51)) (.cells (rcs r') 51)
   rw [World.size_alloc] at this
   exact this
theorem rx_eq (r r':Rv) (L:List Ln) (T:List Tk) (M:List Ln) (L':List Ln) (T':List Tk) (M':List Ln):decide (r.x L T M=r'.x L' T' M')=(r.k==r'.k && r.sg==r'.sg && r.tx==r'.tx && r.st==r'.st && r.cp==r'.cp && decide (((r.ka,r.kb,r.kc):K)=(r'.ka,r'.kb,r'.kc)) && r.d==r'.d && r.o==r'.o && decide (r.pg L T M=r'.pg L' T' M')):=by
 rw [Bool.eq_iff_iff]
 simp only [decide_eq_true_eq,Bool.and_eq_true,beq_iff_eq]
 constructor
 · intro h
   refine⟨⟨⟨⟨⟨⟨⟨⟨?_,?_⟩,?_⟩,?_⟩,?_⟩,?_⟩,?_⟩,?_⟩,?_⟩
   · exact congrArg Rx.k h
   · exact congrArg Rx.sg h
   · exact congrArg Rx.tx h
   · exact congrArg Rx.st h
   · exact congrArg Rx.cp h
   · exact congrArg Rx.key h
   · exact congrArg Rx.d h
   · exact congrArg Rx.o h
   · exact congrArg Rx.pg h
 · rintro ⟨⟨⟨⟨⟨⟨⟨⟨h1,h2⟩,h3⟩,h4⟩,h5⟩,h6⟩,h7⟩,h8⟩,h9⟩
   unfold Rv.x
   rw [h1,h2,h3,h4,h5,h6,h7,h8,h9]
theorem z3e (r r':Rv) (L:List Ln) (T:List Tk) (M:List Ln) (L':List Ln) (T':List Tk) (M':List Ln) (W:World) (hP:RvM W r L T M) (hP':RvM W r' L' T' M') (h1:r.ln≤1000∧r.tn≤1000∧r.wn≤1000) (h2:r'.ln≤1000∧r'.tn≤1000∧r'.wn≤1000):Calls Tryz.prog 51 #[.agg (rcs r),.agg (rcs r')] W fun e w'=>e=.returned (.bool (decide (r.x L T M=r'.x L' T' M')))∧Below W.heap.size W w':=by
 obtain⟨W1,hW1,hx,hx',hb1⟩:=two_recs W r r'
 have HP:=hid (hP.later hb1)
 have HP':=hid (hP'.later hb1)
 have hpp:=z6e r.pk r.od r.po r.lp r.ln r.lcp r.tp r.tn r.tcp r.wp r.wn r.wcp r.sk r.fr r.to r.q r'.pk r'.od r'.po r'.lp r'.ln r'.lcp r'.tp r'.tn r'.tcp r'.wp r'.wn r'.wcp r'.sk r'.fr r'.to r'.q L T M L' T' M' W1 HP.out HP'.out h1 h2
 have hkk:=fun w=>key_eql r.ka r.kb r.kc r'.ka r'.kb r'.kc w
 obtain⟨y,hy⟩:∃ y,decide (((r.ka,r.kb,r.kc):K)=(r'.ka,r'.kb,r'.kc))=y:=⟨_,rfl⟩
 obtain⟨z,hz⟩:∃ z,decide (r.pg L T M=r'.pg L' T' M')=z:=⟨_,rfl⟩
 have hz':decide ((⟨r.pk,r.od,r.po,L,T,M,r.sk,r.fr,r.to,r.q⟩:Pg)=⟨r'.pk,r'.od,r'.po,L',T',M',r'.sk,r'.fr,r'.to,r'.q⟩)=z:=hz
 rw [hz'] at hpp
 rw [hy] at hkk
 have HA:=hid (rx_eq r r' L T M L' T' M')
 rw [hy,hz] at HA
 have HX:=hid hx
 have HX':=hid hx'
 have HW1:=hid hW1
 have HB1:=hid hb1
 have c0:W1.cell? ⟨W.heap.size,0,none⟩=some (.int .u8 r.k):=z0a hx rfl
 have d0:W1.cell? ⟨W.heap.size+1,0,none⟩=some (.int .u8 r'.k):=z0a hx' rfl
 have c1:W1.cell? ⟨W.heap.size,1,none⟩=some (.int .u32 r.sg):=z0a hx rfl
 have d1:W1.cell? ⟨W.heap.size+1,1,none⟩=some (.int .u32 r'.sg):=z0a hx' rfl
 have c2:W1.cell? ⟨W.heap.size,2,none⟩=some (.int .u32 r.tx):=z0a hx rfl
 have d2:W1.cell? ⟨W.heap.size+1,2,none⟩=some (.int .u32 r'.tx):=z0a hx' rfl
 have c3:W1.cell? ⟨W.heap.size,3,none⟩=some (.int .u8 r.st):=z0a hx rfl
 have d3:W1.cell? ⟨W.heap.size+1,3,none⟩=some (.int .u8 r'.st):=z0a hx' rfl
 have c4:W1.cell? ⟨W.heap.size,4,none⟩=some (.bool r.cp):=z0a hx rfl
 have d4:W1.cell? ⟨W.heap.size+1,4,none⟩=some (.bool r'.cp):=z0a hx' rfl
 have c8:W1.cell? ⟨W.heap.size,8,none⟩=some (.int .i64 r.d):=z0a hx rfl
 have d8:W1.cell? ⟨W.heap.size+1,8,none⟩=some (.int .i64 r'.d):=z0a hx' rfl
 have c9:W1.cell? ⟨W.heap.size,9,none⟩=some (.int .u8 r.o):=z0a hx rfl
 have d9:W1.cell? ⟨W.heap.size+1,9,none⟩=some (.int .u8 r'.o):=z0a hx' rfl
 clear hW1 hx hx' hb1 hP hP' h1 h2 hy hz hz'
 cases qk:(r.k==r'.k)
 case false =>
  go_enter Tryz.func51,Tryz.ntmps51
  go_upto_region 1 with (fail)
  rw [HW1.out]
  go_wp2_with (first | ((with_reducible refine z0i HX.out ?_ ?_ ?_);rfl;rfl) | ((with_reducible refine z0i HX'.out ?_ ?_ ?_);rfl;rfl) | ((with_reducible refine z0h HX.out ?_ ?_ ?_);rfl;rfl) | ((with_reducible refine z0h HX'.out ?_ ?_ ?_);rfl;rfl))
  go_ret
  exact⟨by rw [HA.out,qk];rfl,HB1.out⟩
 cases qsg:(r.sg==r'.sg)
 case false =>
  go_enter Tryz.func51,Tryz.ntmps51
  go_upto_region 1 with (fail)
  rw [HW1.out]
  go_wp2_with (first | ((with_reducible refine z0i HX.out ?_ ?_ ?_);rfl;rfl) | ((with_reducible refine z0i HX'.out ?_ ?_ ?_);rfl;rfl) | ((with_reducible refine z0h HX.out ?_ ?_ ?_);rfl;rfl) | ((with_reducible refine z0h HX'.out ?_ ?_ ?_);rfl;rfl))
  go_ret
  exact⟨by rw [HA.out,qk,qsg];rfl,HB1.out⟩
 cases qtx:(r.tx==r'.tx)
 case false =>
  go_enter Tryz.func51,Tryz.ntmps51
  go_upto_region 1 with (fail)
  rw [HW1.out]
  go_wp2_with (first | ((with_reducible refine z0i HX.out ?_ ?_ ?_);rfl;rfl) | ((with_reducible refine z0i HX'.out ?_ ?_ ?_);rfl;rfl) | ((with_reducible refine z0h HX.out ?_ ?_ ?_);rfl;rfl) | ((with_reducible refine z0h HX'.out ?_ ?_ ?_);rfl;rfl))
  go_ret
  exact⟨by rw [HA.out,qk,qsg,qtx];rfl,HB1.out⟩
 cases qst:(r.st==r'.st)
 case false =>
  go_enter Tryz.func51,Tryz.ntmps51
  go_upto_region 1 with (fail)
  rw [HW1.out]
  go_wp2_with (first | ((with_reducible refine z0i HX.out ?_ ?_ ?_);rfl;rfl) | ((with_reducible refine z0i HX'.out ?_ ?_ ?_);rfl;rfl) | ((with_reducible refine z0h HX.out ?_ ?_ ?_);rfl;rfl) | ((with_reducible refine z0h HX'.out ?_ ?_ ?_);rfl;rfl))
  go_ret
  exact⟨by rw [HA.out,qk,qsg,qtx,qst];rfl,HB1.out⟩
 cases qcp:(r.cp==r'.cp)
 case false =>
  go_enter Tryz.func51,Tryz.ntmps51
  go_upto_region 1 with (fail)
  rw [HW1.out]
  go_wp2_with (first | ((with_reducible refine z0i HX.out ?_ ?_ ?_);rfl;rfl) | ((with_reducible refine z0i HX'.out ?_ ?_ ?_);rfl;rfl) | ((with_reducible refine z0h HX.out ?_ ?_ ?_);rfl;rfl) | ((with_reducible refine z0h HX'.out ?_ ?_ ?_);rfl;rfl))
  go_ret
  exact⟨by rw [HA.out,qk,qsg,qtx,qst,qcp];rfl,HB1.out⟩
 cases y
 case false =>
  go_enter Tryz.func51,Tryz.ntmps51
  go_upto_region 1 with (fail)
  rw [HW1.out]
  go_wp2_with (first | ((with_reducible refine z0i HX.out ?_ ?_ ?_);rfl;rfl) | ((with_reducible refine z0i HX'.out ?_ ?_ ?_);rfl;rfl) | ((with_reducible refine z0h HX.out ?_ ?_ ?_);rfl;rfl) | ((with_reducible refine z0h HX'.out ?_ ?_ ?_);rfl;rfl))
  go_ret
  exact⟨by rw [HA.out,qk,qsg,qtx,qst,qcp];rfl,HB1.out⟩
 cases qd:(r.d==r'.d)
 case false =>
  go_enter Tryz.func51,Tryz.ntmps51
  go_upto_region 1 with (fail)
  rw [HW1.out]
  go_wp2_with (first | ((with_reducible refine z0i HX.out ?_ ?_ ?_);rfl;rfl) | ((with_reducible refine z0i HX'.out ?_ ?_ ?_);rfl;rfl) | ((with_reducible refine z0h HX.out ?_ ?_ ?_);rfl;rfl) | ((with_reducible refine z0h HX'.out ?_ ?_ ?_);rfl;rfl))
  go_ret
  exact⟨by rw [HA.out,qk,qsg,qtx,qst,qcp,qd];rfl,HB1.out⟩
 cases qo:(r.o==r'.o)
 case false =>
  go_enter Tryz.func51,Tryz.ntmps51
  go_upto_region 1 with (fail)
  rw [HW1.out]
  go_wp2_with (first | ((with_reducible refine z0i HX.out ?_ ?_ ?_);rfl;rfl) | ((with_reducible refine z0i HX'.out ?_ ?_ ?_);rfl;rfl) | ((with_reducible refine z0h HX.out ?_ ?_ ?_);rfl;rfl) | ((with_reducible refine z0h HX'.out ?_ ?_ ?_);rfl;rfl))
  go_ret
  exact⟨by rw [HA.out,qk,qsg,qtx,qst,qcp,qd,qo];rfl,HB1.out⟩
 go_enter Tryz.func51,Tryz.ntmps51
 go_upto_region 1 with (fail)
 rw [HW1.out]
 go_wp2_with (first | ((with_reducible refine z0i HX.out ?_ ?_ ?_);rfl;rfl) | ((with_reducible refine z0i HX'.out ?_ ?_ ?_);rfl;rfl) | ((with_reducible refine z0h HX.out ?_ ?_ ?_);rfl;rfl) | ((with_reducible refine z0h HX'.out ?_ ?_ ?_);rfl;rfl))
 refine hpp.mono ?_
 rintro e w2 ⟨rfl,h2⟩
 have HB2:=hid (HB1.out.trans (h2.mono HB1.out.size))
 clear h2 hpp c0 d0 c1 d1 c2 d2 c3 d3 c4 d4 c8 d8 c9 d9
 go_wp2_with fail
 go_ret
 exact⟨by rw [HA.out,qk,qsg,qtx,qst,qcp,qd,qo];rfl,HB2.out⟩
structure Gz (W w:World) (B Y:Nat) (r q:Rv):Prop where
 x:RB w B r
 y:RB w Y q
 below:Below W.heap.size W w
 ord:W.heap.size≤B∧B<Y
theorem Gz.later {W w w':World} {B Y:Nat} {r q:Rv} (h:Gz W w B Y r q) (hb:Below w.heap.size w w'):Gz W w' B Y r q:=⟨h.x.later hb,h.y.later hb,h.below.trans (hb.mono h.below.size),h.ord⟩
theorem Gz.put {W w:World} {B Y:Nat} {r q:Rv} (h:Gz W w B Y r q) (j:Nat) (v:Value) (q':Rv) (he:(rcs q).setIfInBounds j v=rcs q'):Gz W (w.setCell ⟨Y,j,none⟩ v) B Y r q':=by
 have ho:=h.ord
 have hc:Chg (fun k=>k=Y) w (w.setCell ⟨Y,j,none⟩ v):=(Chg.refl _ _).setCell ⟨Y,j,none⟩ _ fun _=>rfl
 exact⟨h.x.chg hc (by omega),h.y.put j v q' he,Chg.below h.below h.below.size hc fun k hk=>by omega,h.ord⟩
theorem Gz.set {W w:World} {B Y:Nat} {r q:Rv} (h:Gz W w B Y r q) (q':Rv):Gz W (w.setRow Y (rcs q')) B Y r q':=by
 have ho:=h.ord
 have hc:Chg (fun k=>k=Y) w (w.setRow Y (rcs q')):=⟨rfl,rfl,rfl,by simp [World.setRow],fun k _ hn=>setRow_other _ _ _ _ hn⟩
 exact⟨h.x.chg hc (by omega),h.y.set q',Chg.below h.below h.below.size hc fun k hk=>by omega,h.ord⟩
theorem Gz.cy {W w:World} {B Y:Nat} {r q:Rv} (h:Gz W w B Y r q) {j:Nat} {v:Value} (hj:(rcs q)[j]?=some v):w.cell? ⟨Y,j,none⟩=some v∧w.frozen? ⟨Y,j,none⟩=false:=⟨z0a h.y hj,z0c j h.y⟩
theorem Gz.cx {W w:World} {B Y:Nat} {r q:Rv} (h:Gz W w B Y r q) {j:Nat} {v:Value} (hj:(rcs r)[j]?=some v):w.cell? ⟨B,j,none⟩=some v:=z0a h.x hj
theorem rrec_good1 (r:Rv) (L:List Ln) (T:List Tk) (M:List Ln) (W:World) (hP:RvM W r L T M) (hok:Rxok (r.x L T M)) (h1:r.ln≤1000∧r.tn≤1000∧r.wn≤1000) (hk:r.k=1):Calls Tryz.prog 47 #[.agg (rcs r)] W fun e w'=>e=.returned (.bool (z1k (r.x L T M)))∧Below W.heap.size W w':=by
 have HOK:=hid hok
 have HP:=hid hP
 have HH:=hid h1
 clear hok hP h1
 obtain⟨W1,hW1,hb1⟩:∃ W1,W.alloc (.cells (rcs r) 51)=W1∧Below W.heap.size W W1:=⟨_,rfl,(Below.refl _ _).alloc (Nat.le_refl _) _⟩
 obtain⟨B,hB⟩:∃ B,W.heap.size=B:=⟨_,rfl⟩
 have hrb:=RB.new W r
 rw [hW1,hB] at hrb
 obtain⟨Y,hY⟩:∃ Y,W1.heap.size=Y:=⟨_,rfl⟩
 have hBY:B<Y:=by have:=hrb.lt;omega
 obtain⟨w1,hw1,hx1,hb1a⟩:∃ w1,W1.alloc (.cells zr 51)=w1∧RB w1 Y rz∧Below W1.heap.size W1 w1:=⟨_,rfl,by rw [← hY];exact z0e W1 _,(Below.refl _ _).alloc (Nat.le_refl _) _⟩
 have hG1:Gz W w1 B Y r rz:=⟨hrb.later hb1a,hx1,hb1.trans (hb1a.mono hb1.size),by omega,hBY⟩
 obtain⟨w2,hw2,hG2⟩:∃ w2,w1.setRow Y (rcs (rm 1 0 0 0 false 0 0 0 0 0))=w2∧Gz W w2 B Y r (rm 1 0 0 0 false 0 0 0 0 0):=⟨_,rfl,hG1.set _⟩
 have HX1:=hid hrb
 have HW1:=hid hW1
 have HRE:=hid hB
 have HYE:=hid hY
 have HW1a:=hid hw1
 have HXZ:=hid hx1
 have HW2:=hid hw2
 have HG2:=hid hG2
 have c0:W1.cell? ⟨B,0,none⟩=some (.int .u8 r.k):=z0a hrb rfl
 rw [hk] at c0
 clear hW1 hB hY hBY hw1 hx1 hb1a hG1 hw2 hG2 hb1 hrb
 have HHK:=hid hk
 go_enter Tryz.func47,Tryz.ntmps47
 go_upto_region 1 with (fail)
 rw [HW1.out,HRE.out]
 go_upto_region 2 with ((try rw [HYE.out]);(try rw [HW1a.out]);(with_reducible refine z1a (rm 1 0 0 0 false 0 0 0 0 0) HXZ.out ?_ ?_ ?_);rfl;rfl;rw [HW2.out])
 clear c0 HX1 HW1 HRE HYE HW1a HXZ HW2
 have c0:=HG2.out.cx (j:=0) (v:=.int .u8 r.k) rfl
 have c1:=HG2.out.cx (j:=1) (v:=.int .u32 r.sg) rfl
 have c2:=HG2.out.cx (j:=2) (v:=.int .u32 r.tx) rfl
 have c3:=HG2.out.cx (j:=3) (v:=.int .u8 r.st) rfl
 have c4:=HG2.out.cx (j:=4) (v:=.bool r.cp) rfl
 have c8:=HG2.out.cx (j:=8) (v:=.int .i64 r.d) rfl
 have c9:=HG2.out.cx (j:=9) (v:=.int .u8 r.o) rfl
 rw [hk] at c0
 obtain⟨cy,cf⟩:=HG2.out.cy (j:=1) (v:=.int .u32 0) rfl
 go_upto_region 7 with (fail)
 clear cy cf
 have hq:=HG2.out.put 1 (.int .u32 r.sg) (rm 1 r.sg 0 0 false 0 0 0 0 0) rfl
 generalize w2.setCell ⟨Y,1,none⟩ (.int .u32 r.sg)=w3 at *
 have HG3:=hid hq
 clear hq HG2
 clear c0 c1 c2 c3 c4 c8 c9
 have c0:=HG3.out.cx (j:=0) (v:=.int .u8 r.k) rfl
 have c1:=HG3.out.cx (j:=1) (v:=.int .u32 r.sg) rfl
 have c2:=HG3.out.cx (j:=2) (v:=.int .u32 r.tx) rfl
 have c3:=HG3.out.cx (j:=3) (v:=.int .u8 r.st) rfl
 have c4:=HG3.out.cx (j:=4) (v:=.bool r.cp) rfl
 have c8:=HG3.out.cx (j:=8) (v:=.int .i64 r.d) rfl
 have c9:=HG3.out.cx (j:=9) (v:=.int .u8 r.o) rfl
 rw [hk] at c0
 obtain⟨w4,hgen,hq⟩:∃ w4,w3.setRow Y (rcs (Rv.withP (rm 1 r.sg 0 0 false 0 0 0 0 0) r))=w4∧Gz W w4 B Y r (Rv.withP (rm 1 r.sg 0 0 false 0 0 0 0 0) r):=⟨_,rfl,HG3.out.set _⟩
 have HGEN:=hid hgen
 have HG4:=hid hq
 clear hgen hq
 go_upto_region 8 with (first | ((with_reducible refine z2t HG3.out.x ?_ ?_);rfl) | ((with_reducible refine wpList_store_pr r HG3.out.y ?_ ?_ ?_);rfl;rfl;rw [HGEN.out]))
 clear HGEN HG3
 clear c0 c1 c2 c3 c4 c8 c9
 have c0:=HG4.out.cx (j:=0) (v:=.int .u8 r.k) rfl
 have c1:=HG4.out.cx (j:=1) (v:=.int .u32 r.sg) rfl
 have c2:=HG4.out.cx (j:=2) (v:=.int .u32 r.tx) rfl
 have c3:=HG4.out.cx (j:=3) (v:=.int .u8 r.st) rfl
 have c4:=HG4.out.cx (j:=4) (v:=.bool r.cp) rfl
 have c8:=HG4.out.cx (j:=8) (v:=.int .i64 r.d) rfl
 have c9:=HG4.out.cx (j:=9) (v:=.int .u8 r.o) rfl
 rw [hk] at c0
 have HA:Hid (z1k (r.x L T M)=((r.sg != 0) && z0u 4 4 (r.pg L T M) && decide (r.x L T M=(Rv.x (Rv.withP (rm 1 r.sg 0 0 false 0 0 0 0 0) r) L T M)))):=hid (by
  have e:r.x L T M=⟨1,r.sg,r.tx,r.st,r.cp,(r.ka,r.kb,r.kc),r.d,r.o,r.pg L T M⟩:=by unfold Rv.x;rw [hk]
  rw [e,gk1 _ _ _ _ _ _ _ _]
  rfl)
 obtain⟨z,hz⟩:∃ z,decide (r.x L T M=(Rv.x (Rv.withP (rm 1 r.sg 0 0 false 0 0 0 0 0) r) L T M))=z:=⟨_,rfl⟩
 rw [hz] at HA
 have HSM:=hid (fun w (h:Gz W w B Y r (Rv.withP (rm 1 r.sg 0 0 false 0 0 0 0 0) r))=>z3e r (Rv.withP (rm 1 r.sg 0 0 false 0 0 0 0 0) r) L T M L T M w (HP.out.later h.below) (HP.out.later h.below) HH.out HH.out)
 rw [hz] at HSM
 clear hz hk
 have HGX:=HG4
 clear HG4
 cases qsg:(r.sg != 0)
 case false =>
  go_wp2_with (first | ((with_reducible refine z0f HGX.out.x ?_ ?_ ?_);rfl;rfl) | ((with_reducible refine z0f HGX.out.y ?_ ?_ ?_);rfl;rfl) | ((with_reducible refine z0h HGX.out.x ?_ ?_ ?_);rfl;rfl) | ((with_reducible refine z0i HGX.out.x ?_ ?_ ?_);rfl;rfl))
  go_ret
  exact⟨by rw [HA.out,qsg];rfl,HGX.out.below⟩
 go_wp2_with (first | ((with_reducible refine z0f HGX.out.x ?_ ?_ ?_);rfl;rfl) | ((with_reducible refine z0f HGX.out.y ?_ ?_ ?_);rfl;rfl) | ((with_reducible refine z0h HGX.out.x ?_ ?_ ?_);rfl;rfl) | ((with_reducible refine z0i HGX.out.x ?_ ?_ ?_);rfl;rfl))
 refine (rgood_p 4 4 r.pk r.od r.po r.lp r.ln r.lcp r.tp r.tn r.tcp r.wp r.wn r.wcp r.sk r.fr r.to r.q L T M w4 (HP.out.later HGX.out.below) HOK.out.pg HH.out).mono ?_
 rintro e w5 ⟨rfl,hcb⟩
 have hgp:z0u 4 4 ⟨r.pk,r.od,r.po,L,T,M,r.sk,r.fr,r.to,r.q⟩=z0u 4 4 (r.pg L T M):=rfl
 rw [hgp]
 clear hgp
 have HGX:=hid (HGX.out.later hcb)
 clear hcb
 clear c0 c1 c2 c3 c4 c8 c9
 have c0:=HGX.out.cx (j:=0) (v:=.int .u8 r.k) rfl
 have c1:=HGX.out.cx (j:=1) (v:=.int .u32 r.sg) rfl
 have c2:=HGX.out.cx (j:=2) (v:=.int .u32 r.tx) rfl
 have c3:=HGX.out.cx (j:=3) (v:=.int .u8 r.st) rfl
 have c4:=HGX.out.cx (j:=4) (v:=.bool r.cp) rfl
 have c8:=HGX.out.cx (j:=8) (v:=.int .i64 r.d) rfl
 have c9:=HGX.out.cx (j:=9) (v:=.int .u8 r.o) rfl
 rw [HHK.out] at c0
 cases qCP:z0u 4 4 (r.pg L T M)
 case false =>
  go_wp2_with (first | ((with_reducible refine z0f HGX.out.x ?_ ?_ ?_);rfl;rfl) | ((with_reducible refine z0f HGX.out.y ?_ ?_ ?_);rfl;rfl) | ((with_reducible refine z0h HGX.out.x ?_ ?_ ?_);rfl;rfl) | ((with_reducible refine z0i HGX.out.x ?_ ?_ ?_);rfl;rfl))
  go_ret
  exact⟨by rw [HA.out,qsg,qCP];rfl,HGX.out.below⟩
 go_wp2_with (first | ((with_reducible refine z0f HGX.out.x ?_ ?_ ?_);rfl;rfl) | ((with_reducible refine z0f HGX.out.y ?_ ?_ ?_);rfl;rfl) | ((with_reducible refine z0h HGX.out.x ?_ ?_ ?_);rfl;rfl) | ((with_reducible refine z0i HGX.out.x ?_ ?_ ?_);rfl;rfl))
 refine (HSM.out w5 HGX.out).mono ?_
 rintro e w6 ⟨rfl,hcb⟩
 have HB9:=hid (HGX.out.below.trans (hcb.mono HGX.out.below.size))
 clear hcb
 clear c0 c1 c2 c3 c4 c8 c9
 go_wp2_with fail
 go_ret
 exact⟨by rw [HA.out,qsg,qCP];rfl,HB9.out⟩
theorem rrec_good2 (r:Rv) (L:List Ln) (T:List Tk) (M:List Ln) (W:World) (hP:RvM W r L T M) (hok:Rxok (r.x L T M)) (h1:r.ln≤1000∧r.tn≤1000∧r.wn≤1000) (hk:r.k=2):Calls Tryz.prog 47 #[.agg (rcs r)] W fun e w'=>e=.returned (.bool (z1k (r.x L T M)))∧Below W.heap.size W w':=by
 have HOK:=hid hok
 have HP:=hid hP
 have HH:=hid h1
 clear hok hP h1
 obtain⟨W1,hW1,hb1⟩:∃ W1,W.alloc (.cells (rcs r) 51)=W1∧Below W.heap.size W W1:=⟨_,rfl,(Below.refl _ _).alloc (Nat.le_refl _) _⟩
 obtain⟨B,hB⟩:∃ B,W.heap.size=B:=⟨_,rfl⟩
 have hrb:=RB.new W r
 rw [hW1,hB] at hrb
 obtain⟨Y,hY⟩:∃ Y,W1.heap.size=Y:=⟨_,rfl⟩
 have hBY:B<Y:=by have:=hrb.lt;omega
 obtain⟨w1,hw1,hx1,hb1a⟩:∃ w1,W1.alloc (.cells zr 51)=w1∧RB w1 Y rz∧Below W1.heap.size W1 w1:=⟨_,rfl,by rw [← hY];exact z0e W1 _,(Below.refl _ _).alloc (Nat.le_refl _) _⟩
 have hG1:Gz W w1 B Y r rz:=⟨hrb.later hb1a,hx1,hb1.trans (hb1a.mono hb1.size),by omega,hBY⟩
 obtain⟨w2,hw2,hG2⟩:∃ w2,w1.setRow Y (rcs (rm 2 0 0 0 false 0 0 0 0 0))=w2∧Gz W w2 B Y r (rm 2 0 0 0 false 0 0 0 0 0):=⟨_,rfl,hG1.set _⟩
 have HX1:=hid hrb
 have HW1:=hid hW1
 have HRE:=hid hB
 have HYE:=hid hY
 have HW1a:=hid hw1
 have HXZ:=hid hx1
 have HW2:=hid hw2
 have HG2:=hid hG2
 have c0:W1.cell? ⟨B,0,none⟩=some (.int .u8 r.k):=z0a hrb rfl
 rw [hk] at c0
 clear hW1 hB hY hBY hw1 hx1 hb1a hG1 hw2 hG2 hb1 hrb
 have HHK:=hid hk
 go_enter Tryz.func47,Tryz.ntmps47
 go_upto_region 1 with (fail)
 rw [HW1.out,HRE.out]
 go_upto_region 2 with ((try rw [HYE.out]);(try rw [HW1a.out]);(with_reducible refine z1a (rm 2 0 0 0 false 0 0 0 0 0) HXZ.out ?_ ?_ ?_);rfl;rfl;rw [HW2.out])
 clear c0 HX1 HW1 HRE HYE HW1a HXZ HW2
 have c0:=HG2.out.cx (j:=0) (v:=.int .u8 r.k) rfl
 have c1:=HG2.out.cx (j:=1) (v:=.int .u32 r.sg) rfl
 have c2:=HG2.out.cx (j:=2) (v:=.int .u32 r.tx) rfl
 have c3:=HG2.out.cx (j:=3) (v:=.int .u8 r.st) rfl
 have c4:=HG2.out.cx (j:=4) (v:=.bool r.cp) rfl
 have c8:=HG2.out.cx (j:=8) (v:=.int .i64 r.d) rfl
 have c9:=HG2.out.cx (j:=9) (v:=.int .u8 r.o) rfl
 rw [hk] at c0
 obtain⟨cy,cf⟩:=HG2.out.cy (j:=1) (v:=.int .u32 0) rfl
 go_upto_region 11 with (fail)
 clear cy cf
 have hq:=HG2.out.put 1 (.int .u32 r.sg) (rm 2 r.sg 0 0 false 0 0 0 0 0) rfl
 generalize w2.setCell ⟨Y,1,none⟩ (.int .u32 r.sg)=w3 at *
 have HG3:=hid hq
 clear hq HG2
 clear c0 c1 c2 c3 c4 c8 c9
 have c0:=HG3.out.cx (j:=0) (v:=.int .u8 r.k) rfl
 have c1:=HG3.out.cx (j:=1) (v:=.int .u32 r.sg) rfl
 have c2:=HG3.out.cx (j:=2) (v:=.int .u32 r.tx) rfl
 have c3:=HG3.out.cx (j:=3) (v:=.int .u8 r.st) rfl
 have c4:=HG3.out.cx (j:=4) (v:=.bool r.cp) rfl
 have c8:=HG3.out.cx (j:=8) (v:=.int .i64 r.d) rfl
 have c9:=HG3.out.cx (j:=9) (v:=.int .u8 r.o) rfl
 rw [hk] at c0
 obtain⟨cy,cf⟩:=HG3.out.cy (j:=2) (v:=.int .u32 0) rfl
 go_upto_region 12 with (fail)
 clear cy cf
 have hq:=HG3.out.put 2 (.int .u32 r.tx) (rm 2 r.sg r.tx 0 false 0 0 0 0 0) rfl
 generalize w3.setCell ⟨Y,2,none⟩ (.int .u32 r.tx)=w4 at *
 have HG4:=hid hq
 clear hq HG3
 clear c0 c1 c2 c3 c4 c8 c9
 have c0:=HG4.out.cx (j:=0) (v:=.int .u8 r.k) rfl
 have c1:=HG4.out.cx (j:=1) (v:=.int .u32 r.sg) rfl
 have c2:=HG4.out.cx (j:=2) (v:=.int .u32 r.tx) rfl
 have c3:=HG4.out.cx (j:=3) (v:=.int .u8 r.st) rfl
 have c4:=HG4.out.cx (j:=4) (v:=.bool r.cp) rfl
 have c8:=HG4.out.cx (j:=8) (v:=.int .i64 r.d) rfl
 have c9:=HG4.out.cx (j:=9) (v:=.int .u8 r.o) rfl
 rw [hk] at c0
 obtain⟨cy,cf⟩:=HG4.out.cy (j:=3) (v:=.int .u8 0) rfl
 go_upto_region 13 with (fail)
 clear cy cf
 have hq:=HG4.out.put 3 (.int .u8 r.st) (rm 2 r.sg r.tx r.st false 0 0 0 0 0) rfl
 generalize w4.setCell ⟨Y,3,none⟩ (.int .u8 r.st)=w5 at *
 have HG5:=hid hq
 clear hq HG4
 clear c0 c1 c2 c3 c4 c8 c9
 have c0:=HG5.out.cx (j:=0) (v:=.int .u8 r.k) rfl
 have c1:=HG5.out.cx (j:=1) (v:=.int .u32 r.sg) rfl
 have c2:=HG5.out.cx (j:=2) (v:=.int .u32 r.tx) rfl
 have c3:=HG5.out.cx (j:=3) (v:=.int .u8 r.st) rfl
 have c4:=HG5.out.cx (j:=4) (v:=.bool r.cp) rfl
 have c8:=HG5.out.cx (j:=8) (v:=.int .i64 r.d) rfl
 have c9:=HG5.out.cx (j:=9) (v:=.int .u8 r.o) rfl
 rw [hk] at c0
 obtain⟨cy,cf⟩:=HG5.out.cy (j:=4) (v:=.bool false) rfl
 go_upto_region 14 with (fail)
 clear cy cf
 have hq:=HG5.out.put 4 (.bool r.cp) (rm 2 r.sg r.tx r.st r.cp 0 0 0 0 0) rfl
 generalize w5.setCell ⟨Y,4,none⟩ (.bool r.cp)=w6 at *
 have HG6:=hid hq
 clear hq HG5
 clear c0 c1 c2 c3 c4 c8 c9
 have c0:=HG6.out.cx (j:=0) (v:=.int .u8 r.k) rfl
 have c1:=HG6.out.cx (j:=1) (v:=.int .u32 r.sg) rfl
 have c2:=HG6.out.cx (j:=2) (v:=.int .u32 r.tx) rfl
 have c3:=HG6.out.cx (j:=3) (v:=.int .u8 r.st) rfl
 have c4:=HG6.out.cx (j:=4) (v:=.bool r.cp) rfl
 have c8:=HG6.out.cx (j:=8) (v:=.int .i64 r.d) rfl
 have c9:=HG6.out.cx (j:=9) (v:=.int .u8 r.o) rfl
 rw [hk] at c0
 have HA:Hid (z1k (r.x L T M)=((r.sg != 0) && (r.tx != 0) && decide (r.st<5) && decide (r.x L T M=(Rv.x (rm 2 r.sg r.tx r.st r.cp 0 0 0 0 0) [] [] [])))):=hid (by
  have e:r.x L T M=⟨2,r.sg,r.tx,r.st,r.cp,(r.ka,r.kb,r.kc),r.d,r.o,r.pg L T M⟩:=by unfold Rv.x;rw [hk]
  rw [e,gk2 _ _ _ _ _ _ _ _]
  rfl)
 obtain⟨z,hz⟩:∃ z,decide (r.x L T M=(Rv.x (rm 2 r.sg r.tx r.st r.cp 0 0 0 0 0) [] [] []))=z:=⟨_,rfl⟩
 rw [hz] at HA
 have HSM:=hid (fun w (h:Gz W w B Y r (rm 2 r.sg r.tx r.st r.cp 0 0 0 0 0))=>z3e r (rm 2 r.sg r.tx r.st r.cp 0 0 0 0 0) L T M [] [] [] w (HP.out.later h.below) (z4o _ _ _ _ _ _ _ _ _ _ _) HH.out ⟨Nat.zero_le _,Nat.zero_le _,Nat.zero_le _⟩)
 rw [hz] at HSM
 clear hz hk
 have HGX:=HG6
 clear HG6
 cases qsg:(r.sg != 0)
 case false =>
  go_wp2_with (first | ((with_reducible refine z0f HGX.out.x ?_ ?_ ?_);rfl;rfl) | ((with_reducible refine z0f HGX.out.y ?_ ?_ ?_);rfl;rfl) | ((with_reducible refine z0h HGX.out.x ?_ ?_ ?_);rfl;rfl) | ((with_reducible refine z0i HGX.out.x ?_ ?_ ?_);rfl;rfl))
  go_ret
  exact⟨by rw [HA.out,qsg];rfl,HGX.out.below⟩
 cases qtx:(r.tx != 0)
 case false =>
  go_wp2_with (first | ((with_reducible refine z0f HGX.out.x ?_ ?_ ?_);rfl;rfl) | ((with_reducible refine z0f HGX.out.y ?_ ?_ ?_);rfl;rfl) | ((with_reducible refine z0h HGX.out.x ?_ ?_ ?_);rfl;rfl) | ((with_reducible refine z0i HGX.out.x ?_ ?_ ?_);rfl;rfl))
  go_ret
  exact⟨by rw [HA.out,qsg,qtx];rfl,HGX.out.below⟩
 cases qLT:decide (r.st<5)
 case false =>
  go_wp2_with (first | ((with_reducible refine z0f HGX.out.x ?_ ?_ ?_);rfl;rfl) | ((with_reducible refine z0f HGX.out.y ?_ ?_ ?_);rfl;rfl) | ((with_reducible refine z0h HGX.out.x ?_ ?_ ?_);rfl;rfl) | ((with_reducible refine z0i HGX.out.x ?_ ?_ ?_);rfl;rfl))
  go_ret
  exact⟨by rw [HA.out,qsg,qtx,qLT];rfl,HGX.out.below⟩
 go_wp2_with (first | ((with_reducible refine z0f HGX.out.x ?_ ?_ ?_);rfl;rfl) | ((with_reducible refine z0f HGX.out.y ?_ ?_ ?_);rfl;rfl) | ((with_reducible refine z0h HGX.out.x ?_ ?_ ?_);rfl;rfl) | ((with_reducible refine z0i HGX.out.x ?_ ?_ ?_);rfl;rfl))
 refine (HSM.out w6 HGX.out).mono ?_
 rintro e w7 ⟨rfl,hcb⟩
 have HB9:=hid (HGX.out.below.trans (hcb.mono HGX.out.below.size))
 clear hcb
 clear c0 c1 c2 c3 c4 c8 c9
 go_wp2_with fail
 go_ret
 exact⟨by rw [HA.out,qsg,qtx,qLT];rfl,HB9.out⟩
theorem rrec_good3 (r:Rv) (L:List Ln) (T:List Tk) (M:List Ln) (W:World) (hP:RvM W r L T M) (hok:Rxok (r.x L T M)) (h1:r.ln≤1000∧r.tn≤1000∧r.wn≤1000) (hk:r.k=3):Calls Tryz.prog 47 #[.agg (rcs r)] W fun e w'=>e=.returned (.bool (z1k (r.x L T M)))∧Below W.heap.size W w':=by
 have HOK:=hid hok
 have HP:=hid hP
 have HH:=hid h1
 clear hok hP h1
 obtain⟨W1,hW1,hb1⟩:∃ W1,W.alloc (.cells (rcs r) 51)=W1∧Below W.heap.size W W1:=⟨_,rfl,(Below.refl _ _).alloc (Nat.le_refl _) _⟩
 obtain⟨B,hB⟩:∃ B,W.heap.size=B:=⟨_,rfl⟩
 have hrb:=RB.new W r
 rw [hW1,hB] at hrb
 obtain⟨Y,hY⟩:∃ Y,W1.heap.size=Y:=⟨_,rfl⟩
 have hBY:B<Y:=by have:=hrb.lt;omega
 obtain⟨w1,hw1,hx1,hb1a⟩:∃ w1,W1.alloc (.cells zr 51)=w1∧RB w1 Y rz∧Below W1.heap.size W1 w1:=⟨_,rfl,by rw [← hY];exact z0e W1 _,(Below.refl _ _).alloc (Nat.le_refl _) _⟩
 have hG1:Gz W w1 B Y r rz:=⟨hrb.later hb1a,hx1,hb1.trans (hb1a.mono hb1.size),by omega,hBY⟩
 obtain⟨w2,hw2,hG2⟩:∃ w2,w1.setRow Y (rcs (rm 3 0 0 0 false 0 0 0 0 0))=w2∧Gz W w2 B Y r (rm 3 0 0 0 false 0 0 0 0 0):=⟨_,rfl,hG1.set _⟩
 have HX1:=hid hrb
 have HW1:=hid hW1
 have HRE:=hid hB
 have HYE:=hid hY
 have HW1a:=hid hw1
 have HXZ:=hid hx1
 have HW2:=hid hw2
 have HG2:=hid hG2
 have c0:W1.cell? ⟨B,0,none⟩=some (.int .u8 r.k):=z0a hrb rfl
 rw [hk] at c0
 clear hW1 hB hY hBY hw1 hx1 hb1a hG1 hw2 hG2 hb1 hrb
 have HHK:=hid hk
 go_enter Tryz.func47,Tryz.ntmps47
 go_upto_region 1 with (fail)
 rw [HW1.out,HRE.out]
 go_upto_region 2 with ((try rw [HYE.out]);(try rw [HW1a.out]);(with_reducible refine z1a (rm 3 0 0 0 false 0 0 0 0 0) HXZ.out ?_ ?_ ?_);rfl;rfl;rw [HW2.out])
 clear c0 HX1 HW1 HRE HYE HW1a HXZ HW2
 have c0:=HG2.out.cx (j:=0) (v:=.int .u8 r.k) rfl
 have c1:=HG2.out.cx (j:=1) (v:=.int .u32 r.sg) rfl
 have c2:=HG2.out.cx (j:=2) (v:=.int .u32 r.tx) rfl
 have c3:=HG2.out.cx (j:=3) (v:=.int .u8 r.st) rfl
 have c4:=HG2.out.cx (j:=4) (v:=.bool r.cp) rfl
 have c8:=HG2.out.cx (j:=8) (v:=.int .i64 r.d) rfl
 have c9:=HG2.out.cx (j:=9) (v:=.int .u8 r.o) rfl
 rw [hk] at c0
 obtain⟨cy,cf⟩:=HG2.out.cy (j:=2) (v:=.int .u32 0) rfl
 go_upto_region 18 with (fail)
 clear cy cf
 have hq:=HG2.out.put 2 (.int .u32 r.tx) (rm 3 0 r.tx 0 false 0 0 0 0 0) rfl
 generalize w2.setCell ⟨Y,2,none⟩ (.int .u32 r.tx)=w3 at *
 have HG3:=hid hq
 clear hq HG2
 clear c0 c1 c2 c3 c4 c8 c9
 have c0:=HG3.out.cx (j:=0) (v:=.int .u8 r.k) rfl
 have c1:=HG3.out.cx (j:=1) (v:=.int .u32 r.sg) rfl
 have c2:=HG3.out.cx (j:=2) (v:=.int .u32 r.tx) rfl
 have c3:=HG3.out.cx (j:=3) (v:=.int .u8 r.st) rfl
 have c4:=HG3.out.cx (j:=4) (v:=.bool r.cp) rfl
 have c8:=HG3.out.cx (j:=8) (v:=.int .i64 r.d) rfl
 have c9:=HG3.out.cx (j:=9) (v:=.int .u8 r.o) rfl
 rw [hk] at c0
 obtain⟨w4,hgen,hq⟩:∃ w4,w3.setRow Y (rcs { (rm 3 0 r.tx 0 false 0 0 0 0 0) with ka:=r.ka,kb:=r.kb,kc:=r.kc })=w4∧Gz W w4 B Y r (rm 3 0 r.tx 0 false r.ka r.kb r.kc 0 0):=⟨_,rfl,HG3.out.set (rm 3 0 r.tx 0 false r.ka r.kb r.kc 0 0)⟩
 have HGEN:=hid hgen
 have HG4:=hid hq
 clear hgen hq
 go_upto_region 19 with (first | ((with_reducible refine z2a HG3.out.x ?_ ?_);rfl) | ((with_reducible refine wpList_store_ky r.ka r.kb r.kc HG3.out.y ?_ ?_ ?_);rfl;rfl;rw [HGEN.out]))
 clear HGEN HG3
 clear c0 c1 c2 c3 c4 c8 c9
 have c0:=HG4.out.cx (j:=0) (v:=.int .u8 r.k) rfl
 have c1:=HG4.out.cx (j:=1) (v:=.int .u32 r.sg) rfl
 have c2:=HG4.out.cx (j:=2) (v:=.int .u32 r.tx) rfl
 have c3:=HG4.out.cx (j:=3) (v:=.int .u8 r.st) rfl
 have c4:=HG4.out.cx (j:=4) (v:=.bool r.cp) rfl
 have c8:=HG4.out.cx (j:=8) (v:=.int .i64 r.d) rfl
 have c9:=HG4.out.cx (j:=9) (v:=.int .u8 r.o) rfl
 rw [hk] at c0
 obtain⟨cy,cf⟩:=HG4.out.cy (j:=8) (v:=.int .i64 0) rfl
 go_upto_region 20 with (fail)
 clear cy cf
 have hq:=HG4.out.put 8 (.int .i64 r.d) (rm 3 0 r.tx 0 false r.ka r.kb r.kc r.d 0) rfl
 generalize w4.setCell ⟨Y,8,none⟩ (.int .i64 r.d)=w5 at *
 have HG5:=hid hq
 clear hq HG4
 clear c0 c1 c2 c3 c4 c8 c9
 have c0:=HG5.out.cx (j:=0) (v:=.int .u8 r.k) rfl
 have c1:=HG5.out.cx (j:=1) (v:=.int .u32 r.sg) rfl
 have c2:=HG5.out.cx (j:=2) (v:=.int .u32 r.tx) rfl
 have c3:=HG5.out.cx (j:=3) (v:=.int .u8 r.st) rfl
 have c4:=HG5.out.cx (j:=4) (v:=.bool r.cp) rfl
 have c8:=HG5.out.cx (j:=8) (v:=.int .i64 r.d) rfl
 have c9:=HG5.out.cx (j:=9) (v:=.int .u8 r.o) rfl
 rw [hk] at c0
 have HA:Hid (z1k (r.x L T M)=((r.tx != 0) && z4d 4 4 r.ka r.kb r.kc && (r.d != 0) && decide (-9223372036854775807≤r.d) && decide (r.x L T M=(Rv.x (rm 3 0 r.tx 0 false r.ka r.kb r.kc r.d 0) [] [] [])))):=hid (by
  have e:r.x L T M=⟨3,r.sg,r.tx,r.st,r.cp,(r.ka,r.kb,r.kc),r.d,r.o,r.pg L T M⟩:=by unfold Rv.x;rw [hk]
  rw [e,gk3 _ _ _ _ _ _ _ _ (show In64 r.d from HOK.out.d)]
  rfl)
 obtain⟨z,hz⟩:∃ z,decide (r.x L T M=(Rv.x (rm 3 0 r.tx 0 false r.ka r.kb r.kc r.d 0) [] [] []))=z:=⟨_,rfl⟩
 rw [hz] at HA
 have HSM:=hid (fun w (h:Gz W w B Y r (rm 3 0 r.tx 0 false r.ka r.kb r.kc r.d 0))=>z3e r (rm 3 0 r.tx 0 false r.ka r.kb r.kc r.d 0) L T M [] [] [] w (HP.out.later h.below) (z4o _ _ _ _ _ _ _ _ _ _ _) HH.out ⟨Nat.zero_le _,Nat.zero_le _,Nat.zero_le _⟩)
 rw [hz] at HSM
 clear hz hk
 have HGX:=HG5
 clear HG5
 cases qtx:(r.tx != 0)
 case false =>
  go_wp2_with (first | ((with_reducible refine z0f HGX.out.x ?_ ?_ ?_);rfl;rfl) | ((with_reducible refine z0f HGX.out.y ?_ ?_ ?_);rfl;rfl) | ((with_reducible refine z0h HGX.out.x ?_ ?_ ?_);rfl;rfl) | ((with_reducible refine z0i HGX.out.x ?_ ?_ ?_);rfl;rfl))
  go_ret
  exact⟨by rw [HA.out,qtx];rfl,HGX.out.below⟩
 go_wp2_with (first | ((with_reducible refine z0f HGX.out.x ?_ ?_ ?_);rfl;rfl) | ((with_reducible refine z0f HGX.out.y ?_ ?_ ?_);rfl;rfl) | ((with_reducible refine z0h HGX.out.x ?_ ?_ ?_);rfl;rfl) | ((with_reducible refine z0i HGX.out.x ?_ ?_ ?_);rfl;rfl))
 refine (refgood_any 4 4 r.ka r.kb r.kc HOK.out.key.2.1 HOK.out.key.2.2 w5).mono ?_
 rintro e w6 ⟨rfl,hgr⟩
 have hcb:=hgr.below
 clear hgr
 have HGX:=hid (HGX.out.later hcb)
 clear hcb
 clear c0 c1 c2 c3 c4 c8 c9
 have c0:=HGX.out.cx (j:=0) (v:=.int .u8 r.k) rfl
 have c1:=HGX.out.cx (j:=1) (v:=.int .u32 r.sg) rfl
 have c2:=HGX.out.cx (j:=2) (v:=.int .u32 r.tx) rfl
 have c3:=HGX.out.cx (j:=3) (v:=.int .u8 r.st) rfl
 have c4:=HGX.out.cx (j:=4) (v:=.bool r.cp) rfl
 have c8:=HGX.out.cx (j:=8) (v:=.int .i64 r.d) rfl
 have c9:=HGX.out.cx (j:=9) (v:=.int .u8 r.o) rfl
 rw [HHK.out] at c0
 cases qCK:z4d 4 4 r.ka r.kb r.kc
 case false =>
  go_wp2_with (first | ((with_reducible refine z0f HGX.out.x ?_ ?_ ?_);rfl;rfl) | ((with_reducible refine z0f HGX.out.y ?_ ?_ ?_);rfl;rfl) | ((with_reducible refine z0h HGX.out.x ?_ ?_ ?_);rfl;rfl) | ((with_reducible refine z0i HGX.out.x ?_ ?_ ?_);rfl;rfl))
  go_ret
  exact⟨by rw [HA.out,qtx,qCK];rfl,HGX.out.below⟩
 cases qdn:(r.d != 0)
 case false =>
  go_wp2_with (first | ((with_reducible refine z0f HGX.out.x ?_ ?_ ?_);rfl;rfl) | ((with_reducible refine z0f HGX.out.y ?_ ?_ ?_);rfl;rfl) | ((with_reducible refine z0h HGX.out.x ?_ ?_ ?_);rfl;rfl) | ((with_reducible refine z0i HGX.out.x ?_ ?_ ?_);rfl;rfl))
  go_ret
  exact⟨by rw [HA.out,qtx,qCK,qdn];rfl,HGX.out.below⟩
 cases qdg:decide (-9223372036854775807≤r.d)
 case false =>
  go_wp2_with (first | ((with_reducible refine z0f HGX.out.x ?_ ?_ ?_);rfl;rfl) | ((with_reducible refine z0f HGX.out.y ?_ ?_ ?_);rfl;rfl) | ((with_reducible refine z0h HGX.out.x ?_ ?_ ?_);rfl;rfl) | ((with_reducible refine z0i HGX.out.x ?_ ?_ ?_);rfl;rfl))
  go_ret
  exact⟨by rw [HA.out,qtx,qCK,qdn,qdg];rfl,HGX.out.below⟩
 go_wp2_with (first | ((with_reducible refine z0f HGX.out.x ?_ ?_ ?_);rfl;rfl) | ((with_reducible refine z0f HGX.out.y ?_ ?_ ?_);rfl;rfl) | ((with_reducible refine z0h HGX.out.x ?_ ?_ ?_);rfl;rfl) | ((with_reducible refine z0i HGX.out.x ?_ ?_ ?_);rfl;rfl))
 refine (HSM.out w6 HGX.out).mono ?_
 rintro e w7 ⟨rfl,hcb⟩
 have HB9:=hid (HGX.out.below.trans (hcb.mono HGX.out.below.size))
 clear hcb
 clear c0 c1 c2 c3 c4 c8 c9
 go_wp2_with fail
 go_ret
 exact⟨by rw [HA.out,qtx,qCK,qdn,qdg];rfl,HB9.out⟩
theorem rrec_good4 (r:Rv) (L:List Ln) (T:List Tk) (M:List Ln) (W:World) (hP:RvM W r L T M) (hok:Rxok (r.x L T M)) (h1:r.ln≤1000∧r.tn≤1000∧r.wn≤1000) (hk:r.k=4):Calls Tryz.prog 47 #[.agg (rcs r)] W fun e w'=>e=.returned (.bool (z1k (r.x L T M)))∧Below W.heap.size W w':=by
 have HOK:=hid hok
 have HP:=hid hP
 have HH:=hid h1
 clear hok hP h1
 obtain⟨W1,hW1,hb1⟩:∃ W1,W.alloc (.cells (rcs r) 51)=W1∧Below W.heap.size W W1:=⟨_,rfl,(Below.refl _ _).alloc (Nat.le_refl _) _⟩
 obtain⟨B,hB⟩:∃ B,W.heap.size=B:=⟨_,rfl⟩
 have hrb:=RB.new W r
 rw [hW1,hB] at hrb
 obtain⟨Y,hY⟩:∃ Y,W1.heap.size=Y:=⟨_,rfl⟩
 have hBY:B<Y:=by have:=hrb.lt;omega
 obtain⟨w1,hw1,hx1,hb1a⟩:∃ w1,W1.alloc (.cells zr 51)=w1∧RB w1 Y rz∧Below W1.heap.size W1 w1:=⟨_,rfl,by rw [← hY];exact z0e W1 _,(Below.refl _ _).alloc (Nat.le_refl _) _⟩
 have hG1:Gz W w1 B Y r rz:=⟨hrb.later hb1a,hx1,hb1.trans (hb1a.mono hb1.size),by omega,hBY⟩
 obtain⟨w2,hw2,hG2⟩:∃ w2,w1.setRow Y (rcs (rm 4 0 0 0 false 0 0 0 0 0))=w2∧Gz W w2 B Y r (rm 4 0 0 0 false 0 0 0 0 0):=⟨_,rfl,hG1.set _⟩
 have HX1:=hid hrb
 have HW1:=hid hW1
 have HRE:=hid hB
 have HYE:=hid hY
 have HW1a:=hid hw1
 have HXZ:=hid hx1
 have HW2:=hid hw2
 have HG2:=hid hG2
 have c0:W1.cell? ⟨B,0,none⟩=some (.int .u8 r.k):=z0a hrb rfl
 rw [hk] at c0
 clear hW1 hB hY hBY hw1 hx1 hb1a hG1 hw2 hG2 hb1 hrb
 have HHK:=hid hk
 go_enter Tryz.func47,Tryz.ntmps47
 go_upto_region 1 with (fail)
 rw [HW1.out,HRE.out]
 go_upto_region 2 with ((try rw [HYE.out]);(try rw [HW1a.out]);(with_reducible refine z1a (rm 4 0 0 0 false 0 0 0 0 0) HXZ.out ?_ ?_ ?_);rfl;rfl;rw [HW2.out])
 clear c0 HX1 HW1 HRE HYE HW1a HXZ HW2
 have c0:=HG2.out.cx (j:=0) (v:=.int .u8 r.k) rfl
 have c1:=HG2.out.cx (j:=1) (v:=.int .u32 r.sg) rfl
 have c2:=HG2.out.cx (j:=2) (v:=.int .u32 r.tx) rfl
 have c3:=HG2.out.cx (j:=3) (v:=.int .u8 r.st) rfl
 have c4:=HG2.out.cx (j:=4) (v:=.bool r.cp) rfl
 have c8:=HG2.out.cx (j:=8) (v:=.int .i64 r.d) rfl
 have c9:=HG2.out.cx (j:=9) (v:=.int .u8 r.o) rfl
 rw [hk] at c0
 obtain⟨cy,cf⟩:=HG2.out.cy (j:=2) (v:=.int .u32 0) rfl
 go_upto_region 25 with (fail)
 clear cy cf
 have hq:=HG2.out.put 2 (.int .u32 r.tx) (rm 4 0 r.tx 0 false 0 0 0 0 0) rfl
 generalize w2.setCell ⟨Y,2,none⟩ (.int .u32 r.tx)=w3 at *
 have HG3:=hid hq
 clear hq HG2
 clear c0 c1 c2 c3 c4 c8 c9
 have c0:=HG3.out.cx (j:=0) (v:=.int .u8 r.k) rfl
 have c1:=HG3.out.cx (j:=1) (v:=.int .u32 r.sg) rfl
 have c2:=HG3.out.cx (j:=2) (v:=.int .u32 r.tx) rfl
 have c3:=HG3.out.cx (j:=3) (v:=.int .u8 r.st) rfl
 have c4:=HG3.out.cx (j:=4) (v:=.bool r.cp) rfl
 have c8:=HG3.out.cx (j:=8) (v:=.int .i64 r.d) rfl
 have c9:=HG3.out.cx (j:=9) (v:=.int .u8 r.o) rfl
 rw [hk] at c0
 have HA:Hid (z1k (r.x L T M)=((r.tx != 0) && decide (r.x L T M=(Rv.x (rm 4 0 r.tx 0 false 0 0 0 0 0) [] [] [])))):=hid (by
  have e:r.x L T M=⟨4,r.sg,r.tx,r.st,r.cp,(r.ka,r.kb,r.kc),r.d,r.o,r.pg L T M⟩:=by unfold Rv.x;rw [hk]
  rw [e,gk4 _ _ _ _ _ _ _ _ _ (Or.inl rfl)]
  rfl)
 obtain⟨z,hz⟩:∃ z,decide (r.x L T M=(Rv.x (rm 4 0 r.tx 0 false 0 0 0 0 0) [] [] []))=z:=⟨_,rfl⟩
 rw [hz] at HA
 have HSM:=hid (fun w (h:Gz W w B Y r (rm 4 0 r.tx 0 false 0 0 0 0 0))=>z3e r (rm 4 0 r.tx 0 false 0 0 0 0 0) L T M [] [] [] w (HP.out.later h.below) (z4o _ _ _ _ _ _ _ _ _ _ _) HH.out ⟨Nat.zero_le _,Nat.zero_le _,Nat.zero_le _⟩)
 rw [hz] at HSM
 clear hz hk
 have HGX:=HG3
 clear HG3
 cases qtx:(r.tx != 0)
 case false =>
  go_wp2_with (first | ((with_reducible refine z0f HGX.out.x ?_ ?_ ?_);rfl;rfl) | ((with_reducible refine z0f HGX.out.y ?_ ?_ ?_);rfl;rfl) | ((with_reducible refine z0h HGX.out.x ?_ ?_ ?_);rfl;rfl) | ((with_reducible refine z0i HGX.out.x ?_ ?_ ?_);rfl;rfl))
  go_ret
  exact⟨by rw [HA.out,qtx];rfl,HGX.out.below⟩
 go_wp2_with (first | ((with_reducible refine z0f HGX.out.x ?_ ?_ ?_);rfl;rfl) | ((with_reducible refine z0f HGX.out.y ?_ ?_ ?_);rfl;rfl) | ((with_reducible refine z0h HGX.out.x ?_ ?_ ?_);rfl;rfl) | ((with_reducible refine z0i HGX.out.x ?_ ?_ ?_);rfl;rfl))
 refine (HSM.out w3 HGX.out).mono ?_
 rintro e w4 ⟨rfl,hcb⟩
 have HB9:=hid (HGX.out.below.trans (hcb.mono HGX.out.below.size))
 clear hcb
 clear c0 c1 c2 c3 c4 c8 c9
 go_wp2_with fail
 go_ret
 exact⟨by rw [HA.out,qtx];rfl,HB9.out⟩
theorem rrec_good5 (r:Rv) (L:List Ln) (T:List Tk) (M:List Ln) (W:World) (hP:RvM W r L T M) (hok:Rxok (r.x L T M)) (h1:r.ln≤1000∧r.tn≤1000∧r.wn≤1000) (hk:r.k=5):Calls Tryz.prog 47 #[.agg (rcs r)] W fun e w'=>e=.returned (.bool (z1k (r.x L T M)))∧Below W.heap.size W w':=by
 have HOK:=hid hok
 have HP:=hid hP
 have HH:=hid h1
 clear hok hP h1
 obtain⟨W1,hW1,hb1⟩:∃ W1,W.alloc (.cells (rcs r) 51)=W1∧Below W.heap.size W W1:=⟨_,rfl,(Below.refl _ _).alloc (Nat.le_refl _) _⟩
 obtain⟨B,hB⟩:∃ B,W.heap.size=B:=⟨_,rfl⟩
 have hrb:=RB.new W r
 rw [hW1,hB] at hrb
 obtain⟨Y,hY⟩:∃ Y,W1.heap.size=Y:=⟨_,rfl⟩
 have hBY:B<Y:=by have:=hrb.lt;omega
 obtain⟨w1,hw1,hx1,hb1a⟩:∃ w1,W1.alloc (.cells zr 51)=w1∧RB w1 Y rz∧Below W1.heap.size W1 w1:=⟨_,rfl,by rw [← hY];exact z0e W1 _,(Below.refl _ _).alloc (Nat.le_refl _) _⟩
 have hG1:Gz W w1 B Y r rz:=⟨hrb.later hb1a,hx1,hb1.trans (hb1a.mono hb1.size),by omega,hBY⟩
 obtain⟨w2,hw2,hG2⟩:∃ w2,w1.setRow Y (rcs (rm 5 0 0 0 false 0 0 0 0 0))=w2∧Gz W w2 B Y r (rm 5 0 0 0 false 0 0 0 0 0):=⟨_,rfl,hG1.set _⟩
 have HX1:=hid hrb
 have HW1:=hid hW1
 have HRE:=hid hB
 have HYE:=hid hY
 have HW1a:=hid hw1
 have HXZ:=hid hx1
 have HW2:=hid hw2
 have HG2:=hid hG2
 have c0:W1.cell? ⟨B,0,none⟩=some (.int .u8 r.k):=z0a hrb rfl
 rw [hk] at c0
 clear hW1 hB hY hBY hw1 hx1 hb1a hG1 hw2 hG2 hb1 hrb
 have HHK:=hid hk
 go_enter Tryz.func47,Tryz.ntmps47
 go_upto_region 1 with (fail)
 rw [HW1.out,HRE.out]
 go_upto_region 2 with ((try rw [HYE.out]);(try rw [HW1a.out]);(with_reducible refine z1a (rm 5 0 0 0 false 0 0 0 0 0) HXZ.out ?_ ?_ ?_);rfl;rfl;rw [HW2.out])
 clear c0 HX1 HW1 HRE HYE HW1a HXZ HW2
 have c0:=HG2.out.cx (j:=0) (v:=.int .u8 r.k) rfl
 have c1:=HG2.out.cx (j:=1) (v:=.int .u32 r.sg) rfl
 have c2:=HG2.out.cx (j:=2) (v:=.int .u32 r.tx) rfl
 have c3:=HG2.out.cx (j:=3) (v:=.int .u8 r.st) rfl
 have c4:=HG2.out.cx (j:=4) (v:=.bool r.cp) rfl
 have c8:=HG2.out.cx (j:=8) (v:=.int .i64 r.d) rfl
 have c9:=HG2.out.cx (j:=9) (v:=.int .u8 r.o) rfl
 rw [hk] at c0
 obtain⟨cy,cf⟩:=HG2.out.cy (j:=2) (v:=.int .u32 0) rfl
 go_upto_region 25 with (fail)
 clear cy cf
 have hq:=HG2.out.put 2 (.int .u32 r.tx) (rm 5 0 r.tx 0 false 0 0 0 0 0) rfl
 generalize w2.setCell ⟨Y,2,none⟩ (.int .u32 r.tx)=w3 at *
 have HG3:=hid hq
 clear hq HG2
 clear c0 c1 c2 c3 c4 c8 c9
 have c0:=HG3.out.cx (j:=0) (v:=.int .u8 r.k) rfl
 have c1:=HG3.out.cx (j:=1) (v:=.int .u32 r.sg) rfl
 have c2:=HG3.out.cx (j:=2) (v:=.int .u32 r.tx) rfl
 have c3:=HG3.out.cx (j:=3) (v:=.int .u8 r.st) rfl
 have c4:=HG3.out.cx (j:=4) (v:=.bool r.cp) rfl
 have c8:=HG3.out.cx (j:=8) (v:=.int .i64 r.d) rfl
 have c9:=HG3.out.cx (j:=9) (v:=.int .u8 r.o) rfl
 rw [hk] at c0
 have HA:Hid (z1k (r.x L T M)=((r.tx != 0) && decide (r.x L T M=(Rv.x (rm 5 0 r.tx 0 false 0 0 0 0 0) [] [] [])))):=hid (by
  have e:r.x L T M=⟨5,r.sg,r.tx,r.st,r.cp,(r.ka,r.kb,r.kc),r.d,r.o,r.pg L T M⟩:=by unfold Rv.x;rw [hk]
  rw [e,gk4 _ _ _ _ _ _ _ _ _ (Or.inr (Or.inl rfl))]
  rfl)
 obtain⟨z,hz⟩:∃ z,decide (r.x L T M=(Rv.x (rm 5 0 r.tx 0 false 0 0 0 0 0) [] [] []))=z:=⟨_,rfl⟩
 rw [hz] at HA
 have HSM:=hid (fun w (h:Gz W w B Y r (rm 5 0 r.tx 0 false 0 0 0 0 0))=>z3e r (rm 5 0 r.tx 0 false 0 0 0 0 0) L T M [] [] [] w (HP.out.later h.below) (z4o _ _ _ _ _ _ _ _ _ _ _) HH.out ⟨Nat.zero_le _,Nat.zero_le _,Nat.zero_le _⟩)
 rw [hz] at HSM
 clear hz hk
 have HGX:=HG3
 clear HG3
 cases qtx:(r.tx != 0)
 case false =>
  go_wp2_with (first | ((with_reducible refine z0f HGX.out.x ?_ ?_ ?_);rfl;rfl) | ((with_reducible refine z0f HGX.out.y ?_ ?_ ?_);rfl;rfl) | ((with_reducible refine z0h HGX.out.x ?_ ?_ ?_);rfl;rfl) | ((with_reducible refine z0i HGX.out.x ?_ ?_ ?_);rfl;rfl))
  go_ret
  exact⟨by rw [HA.out,qtx];rfl,HGX.out.below⟩
 go_wp2_with (first | ((with_reducible refine z0f HGX.out.x ?_ ?_ ?_);rfl;rfl) | ((with_reducible refine z0f HGX.out.y ?_ ?_ ?_);rfl;rfl) | ((with_reducible refine z0h HGX.out.x ?_ ?_ ?_);rfl;rfl) | ((with_reducible refine z0i HGX.out.x ?_ ?_ ?_);rfl;rfl))
 refine (HSM.out w3 HGX.out).mono ?_
 rintro e w4 ⟨rfl,hcb⟩
 have HB9:=hid (HGX.out.below.trans (hcb.mono HGX.out.below.size))
 clear hcb
 clear c0 c1 c2 c3 c4 c8 c9
 go_wp2_with fail
 go_ret
 exact⟨by rw [HA.out,qtx];rfl,HB9.out⟩
theorem rrec_good6 (r:Rv) (L:List Ln) (T:List Tk) (M:List Ln) (W:World) (hP:RvM W r L T M) (hok:Rxok (r.x L T M)) (h1:r.ln≤1000∧r.tn≤1000∧r.wn≤1000) (hk:r.k=6):Calls Tryz.prog 47 #[.agg (rcs r)] W fun e w'=>e=.returned (.bool (z1k (r.x L T M)))∧Below W.heap.size W w':=by
 have HOK:=hid hok
 have HP:=hid hP
 have HH:=hid h1
 clear hok hP h1
 obtain⟨W1,hW1,hb1⟩:∃ W1,W.alloc (.cells (rcs r) 51)=W1∧Below W.heap.size W W1:=⟨_,rfl,(Below.refl _ _).alloc (Nat.le_refl _) _⟩
 obtain⟨B,hB⟩:∃ B,W.heap.size=B:=⟨_,rfl⟩
 have hrb:=RB.new W r
 rw [hW1,hB] at hrb
 obtain⟨Y,hY⟩:∃ Y,W1.heap.size=Y:=⟨_,rfl⟩
 have hBY:B<Y:=by have:=hrb.lt;omega
 obtain⟨w1,hw1,hx1,hb1a⟩:∃ w1,W1.alloc (.cells zr 51)=w1∧RB w1 Y rz∧Below W1.heap.size W1 w1:=⟨_,rfl,by rw [← hY];exact z0e W1 _,(Below.refl _ _).alloc (Nat.le_refl _) _⟩
 have hG1:Gz W w1 B Y r rz:=⟨hrb.later hb1a,hx1,hb1.trans (hb1a.mono hb1.size),by omega,hBY⟩
 obtain⟨w2,hw2,hG2⟩:∃ w2,w1.setRow Y (rcs (rm 6 0 0 0 false 0 0 0 0 0))=w2∧Gz W w2 B Y r (rm 6 0 0 0 false 0 0 0 0 0):=⟨_,rfl,hG1.set _⟩
 have HX1:=hid hrb
 have HW1:=hid hW1
 have HRE:=hid hB
 have HYE:=hid hY
 have HW1a:=hid hw1
 have HXZ:=hid hx1
 have HW2:=hid hw2
 have HG2:=hid hG2
 have c0:W1.cell? ⟨B,0,none⟩=some (.int .u8 r.k):=z0a hrb rfl
 rw [hk] at c0
 clear hW1 hB hY hBY hw1 hx1 hb1a hG1 hw2 hG2 hb1 hrb
 have HHK:=hid hk
 go_enter Tryz.func47,Tryz.ntmps47
 go_upto_region 1 with (fail)
 rw [HW1.out,HRE.out]
 go_upto_region 2 with ((try rw [HYE.out]);(try rw [HW1a.out]);(with_reducible refine z1a (rm 6 0 0 0 false 0 0 0 0 0) HXZ.out ?_ ?_ ?_);rfl;rfl;rw [HW2.out])
 clear c0 HX1 HW1 HRE HYE HW1a HXZ HW2
 have c0:=HG2.out.cx (j:=0) (v:=.int .u8 r.k) rfl
 have c1:=HG2.out.cx (j:=1) (v:=.int .u32 r.sg) rfl
 have c2:=HG2.out.cx (j:=2) (v:=.int .u32 r.tx) rfl
 have c3:=HG2.out.cx (j:=3) (v:=.int .u8 r.st) rfl
 have c4:=HG2.out.cx (j:=4) (v:=.bool r.cp) rfl
 have c8:=HG2.out.cx (j:=8) (v:=.int .i64 r.d) rfl
 have c9:=HG2.out.cx (j:=9) (v:=.int .u8 r.o) rfl
 rw [hk] at c0
 obtain⟨cy,cf⟩:=HG2.out.cy (j:=2) (v:=.int .u32 0) rfl
 go_upto_region 18 with (fail)
 clear cy cf
 have hq:=HG2.out.put 2 (.int .u32 r.tx) (rm 6 0 r.tx 0 false 0 0 0 0 0) rfl
 generalize w2.setCell ⟨Y,2,none⟩ (.int .u32 r.tx)=w3 at *
 have HG3:=hid hq
 clear hq HG2
 clear c0 c1 c2 c3 c4 c8 c9
 have c0:=HG3.out.cx (j:=0) (v:=.int .u8 r.k) rfl
 have c1:=HG3.out.cx (j:=1) (v:=.int .u32 r.sg) rfl
 have c2:=HG3.out.cx (j:=2) (v:=.int .u32 r.tx) rfl
 have c3:=HG3.out.cx (j:=3) (v:=.int .u8 r.st) rfl
 have c4:=HG3.out.cx (j:=4) (v:=.bool r.cp) rfl
 have c8:=HG3.out.cx (j:=8) (v:=.int .i64 r.d) rfl
 have c9:=HG3.out.cx (j:=9) (v:=.int .u8 r.o) rfl
 rw [hk] at c0
 obtain⟨w4,hgen,hq⟩:∃ w4,w3.setRow Y (rcs { (rm 6 0 r.tx 0 false 0 0 0 0 0) with ka:=r.ka,kb:=r.kb,kc:=r.kc })=w4∧Gz W w4 B Y r (rm 6 0 r.tx 0 false r.ka r.kb r.kc 0 0):=⟨_,rfl,HG3.out.set (rm 6 0 r.tx 0 false r.ka r.kb r.kc 0 0)⟩
 have HGEN:=hid hgen
 have HG4:=hid hq
 clear hgen hq
 go_upto_region 19 with (first | ((with_reducible refine z2a HG3.out.x ?_ ?_);rfl) | ((with_reducible refine wpList_store_ky r.ka r.kb r.kc HG3.out.y ?_ ?_ ?_);rfl;rfl;rw [HGEN.out]))
 clear HGEN HG3
 clear c0 c1 c2 c3 c4 c8 c9
 have c0:=HG4.out.cx (j:=0) (v:=.int .u8 r.k) rfl
 have c1:=HG4.out.cx (j:=1) (v:=.int .u32 r.sg) rfl
 have c2:=HG4.out.cx (j:=2) (v:=.int .u32 r.tx) rfl
 have c3:=HG4.out.cx (j:=3) (v:=.int .u8 r.st) rfl
 have c4:=HG4.out.cx (j:=4) (v:=.bool r.cp) rfl
 have c8:=HG4.out.cx (j:=8) (v:=.int .i64 r.d) rfl
 have c9:=HG4.out.cx (j:=9) (v:=.int .u8 r.o) rfl
 rw [hk] at c0
 obtain⟨cy,cf⟩:=HG4.out.cy (j:=8) (v:=.int .i64 0) rfl
 go_upto_region 20 with (fail)
 clear cy cf
 have hq:=HG4.out.put 8 (.int .i64 r.d) (rm 6 0 r.tx 0 false r.ka r.kb r.kc r.d 0) rfl
 generalize w4.setCell ⟨Y,8,none⟩ (.int .i64 r.d)=w5 at *
 have HG5:=hid hq
 clear hq HG4
 clear c0 c1 c2 c3 c4 c8 c9
 have c0:=HG5.out.cx (j:=0) (v:=.int .u8 r.k) rfl
 have c1:=HG5.out.cx (j:=1) (v:=.int .u32 r.sg) rfl
 have c2:=HG5.out.cx (j:=2) (v:=.int .u32 r.tx) rfl
 have c3:=HG5.out.cx (j:=3) (v:=.int .u8 r.st) rfl
 have c4:=HG5.out.cx (j:=4) (v:=.bool r.cp) rfl
 have c8:=HG5.out.cx (j:=8) (v:=.int .i64 r.d) rfl
 have c9:=HG5.out.cx (j:=9) (v:=.int .u8 r.o) rfl
 rw [hk] at c0
 have HA:Hid (z1k (r.x L T M)=((r.tx != 0) && z4d 4 4 r.ka r.kb r.kc && (r.d != 0) && decide (-9223372036854775807≤r.d) && decide (r.x L T M=(Rv.x (rm 6 0 r.tx 0 false r.ka r.kb r.kc r.d 0) [] [] [])))):=hid (by
  have e:r.x L T M=⟨6,r.sg,r.tx,r.st,r.cp,(r.ka,r.kb,r.kc),r.d,r.o,r.pg L T M⟩:=by unfold Rv.x;rw [hk]
  rw [e,gk6 _ _ _ _ _ _ _ _ (show In64 r.d from HOK.out.d)]
  rfl)
 obtain⟨z,hz⟩:∃ z,decide (r.x L T M=(Rv.x (rm 6 0 r.tx 0 false r.ka r.kb r.kc r.d 0) [] [] []))=z:=⟨_,rfl⟩
 rw [hz] at HA
 have HSM:=hid (fun w (h:Gz W w B Y r (rm 6 0 r.tx 0 false r.ka r.kb r.kc r.d 0))=>z3e r (rm 6 0 r.tx 0 false r.ka r.kb r.kc r.d 0) L T M [] [] [] w (HP.out.later h.below) (z4o _ _ _ _ _ _ _ _ _ _ _) HH.out ⟨Nat.zero_le _,Nat.zero_le _,Nat.zero_le _⟩)
 rw [hz] at HSM
 clear hz hk
 have HGX:=HG5
 clear HG5
 cases qtx:(r.tx != 0)
 case false =>
  go_wp2_with (first | ((with_reducible refine z0f HGX.out.x ?_ ?_ ?_);rfl;rfl) | ((with_reducible refine z0f HGX.out.y ?_ ?_ ?_);rfl;rfl) | ((with_reducible refine z0h HGX.out.x ?_ ?_ ?_);rfl;rfl) | ((with_reducible refine z0i HGX.out.x ?_ ?_ ?_);rfl;rfl))
  go_ret
  exact⟨by rw [HA.out,qtx];rfl,HGX.out.below⟩
 go_wp2_with (first | ((with_reducible refine z0f HGX.out.x ?_ ?_ ?_);rfl;rfl) | ((with_reducible refine z0f HGX.out.y ?_ ?_ ?_);rfl;rfl) | ((with_reducible refine z0h HGX.out.x ?_ ?_ ?_);rfl;rfl) | ((with_reducible refine z0i HGX.out.x ?_ ?_ ?_);rfl;rfl))
 refine (refgood_any 4 4 r.ka r.kb r.kc HOK.out.key.2.1 HOK.out.key.2.2 w5).mono ?_
 rintro e w6 ⟨rfl,hgr⟩
 have hcb:=hgr.below
 clear hgr
 have HGX:=hid (HGX.out.later hcb)
 clear hcb
 clear c0 c1 c2 c3 c4 c8 c9
 have c0:=HGX.out.cx (j:=0) (v:=.int .u8 r.k) rfl
 have c1:=HGX.out.cx (j:=1) (v:=.int .u32 r.sg) rfl
 have c2:=HGX.out.cx (j:=2) (v:=.int .u32 r.tx) rfl
 have c3:=HGX.out.cx (j:=3) (v:=.int .u8 r.st) rfl
 have c4:=HGX.out.cx (j:=4) (v:=.bool r.cp) rfl
 have c8:=HGX.out.cx (j:=8) (v:=.int .i64 r.d) rfl
 have c9:=HGX.out.cx (j:=9) (v:=.int .u8 r.o) rfl
 rw [HHK.out] at c0
 cases qCK:z4d 4 4 r.ka r.kb r.kc
 case false =>
  go_wp2_with (first | ((with_reducible refine z0f HGX.out.x ?_ ?_ ?_);rfl;rfl) | ((with_reducible refine z0f HGX.out.y ?_ ?_ ?_);rfl;rfl) | ((with_reducible refine z0h HGX.out.x ?_ ?_ ?_);rfl;rfl) | ((with_reducible refine z0i HGX.out.x ?_ ?_ ?_);rfl;rfl))
  go_ret
  exact⟨by rw [HA.out,qtx,qCK];rfl,HGX.out.below⟩
 cases qdn:(r.d != 0)
 case false =>
  go_wp2_with (first | ((with_reducible refine z0f HGX.out.x ?_ ?_ ?_);rfl;rfl) | ((with_reducible refine z0f HGX.out.y ?_ ?_ ?_);rfl;rfl) | ((with_reducible refine z0h HGX.out.x ?_ ?_ ?_);rfl;rfl) | ((with_reducible refine z0i HGX.out.x ?_ ?_ ?_);rfl;rfl))
  go_ret
  exact⟨by rw [HA.out,qtx,qCK,qdn];rfl,HGX.out.below⟩
 cases qdg:decide (-9223372036854775807≤r.d)
 case false =>
  go_wp2_with (first | ((with_reducible refine z0f HGX.out.x ?_ ?_ ?_);rfl;rfl) | ((with_reducible refine z0f HGX.out.y ?_ ?_ ?_);rfl;rfl) | ((with_reducible refine z0h HGX.out.x ?_ ?_ ?_);rfl;rfl) | ((with_reducible refine z0i HGX.out.x ?_ ?_ ?_);rfl;rfl))
  go_ret
  exact⟨by rw [HA.out,qtx,qCK,qdn,qdg];rfl,HGX.out.below⟩
 go_wp2_with (first | ((with_reducible refine z0f HGX.out.x ?_ ?_ ?_);rfl;rfl) | ((with_reducible refine z0f HGX.out.y ?_ ?_ ?_);rfl;rfl) | ((with_reducible refine z0h HGX.out.x ?_ ?_ ?_);rfl;rfl) | ((with_reducible refine z0i HGX.out.x ?_ ?_ ?_);rfl;rfl))
 refine (HSM.out w6 HGX.out).mono ?_
 rintro e w7 ⟨rfl,hcb⟩
 have HB9:=hid (HGX.out.below.trans (hcb.mono HGX.out.below.size))
 clear hcb
 clear c0 c1 c2 c3 c4 c8 c9
 go_wp2_with fail
 go_ret
 exact⟨by rw [HA.out,qtx,qCK,qdn,qdg];rfl,HB9.out⟩
theorem rrec_good7 (r:Rv) (L:List Ln) (T:List Tk) (M:List Ln) (W:World) (hP:RvM W r L T M) (hok:Rxok (r.x L T M)) (h1:r.ln≤1000∧r.tn≤1000∧r.wn≤1000) (hk:r.k=7):Calls Tryz.prog 47 #[.agg (rcs r)] W fun e w'=>e=.returned (.bool (z1k (r.x L T M)))∧Below W.heap.size W w':=by
 have HOK:=hid hok
 have HP:=hid hP
 have HH:=hid h1
 clear hok hP h1
 obtain⟨W1,hW1,hb1⟩:∃ W1,W.alloc (.cells (rcs r) 51)=W1∧Below W.heap.size W W1:=⟨_,rfl,(Below.refl _ _).alloc (Nat.le_refl _) _⟩
 obtain⟨B,hB⟩:∃ B,W.heap.size=B:=⟨_,rfl⟩
 have hrb:=RB.new W r
 rw [hW1,hB] at hrb
 obtain⟨Y,hY⟩:∃ Y,W1.heap.size=Y:=⟨_,rfl⟩
 have hBY:B<Y:=by have:=hrb.lt;omega
 obtain⟨w1,hw1,hx1,hb1a⟩:∃ w1,W1.alloc (.cells zr 51)=w1∧RB w1 Y rz∧Below W1.heap.size W1 w1:=⟨_,rfl,by rw [← hY];exact z0e W1 _,(Below.refl _ _).alloc (Nat.le_refl _) _⟩
 have hG1:Gz W w1 B Y r rz:=⟨hrb.later hb1a,hx1,hb1.trans (hb1a.mono hb1.size),by omega,hBY⟩
 obtain⟨w2,hw2,hG2⟩:∃ w2,w1.setRow Y (rcs (rm 7 0 0 0 false 0 0 0 0 0))=w2∧Gz W w2 B Y r (rm 7 0 0 0 false 0 0 0 0 0):=⟨_,rfl,hG1.set _⟩
 have HX1:=hid hrb
 have HW1:=hid hW1
 have HRE:=hid hB
 have HYE:=hid hY
 have HW1a:=hid hw1
 have HXZ:=hid hx1
 have HW2:=hid hw2
 have HG2:=hid hG2
 have c0:W1.cell? ⟨B,0,none⟩=some (.int .u8 r.k):=z0a hrb rfl
 rw [hk] at c0
 clear hW1 hB hY hBY hw1 hx1 hb1a hG1 hw2 hG2 hb1 hrb
 have HHK:=hid hk
 go_enter Tryz.func47,Tryz.ntmps47
 go_upto_region 1 with (fail)
 rw [HW1.out,HRE.out]
 go_upto_region 2 with ((try rw [HYE.out]);(try rw [HW1a.out]);(with_reducible refine z1a (rm 7 0 0 0 false 0 0 0 0 0) HXZ.out ?_ ?_ ?_);rfl;rfl;rw [HW2.out])
 clear c0 HX1 HW1 HRE HYE HW1a HXZ HW2
 have c0:=HG2.out.cx (j:=0) (v:=.int .u8 r.k) rfl
 have c1:=HG2.out.cx (j:=1) (v:=.int .u32 r.sg) rfl
 have c2:=HG2.out.cx (j:=2) (v:=.int .u32 r.tx) rfl
 have c3:=HG2.out.cx (j:=3) (v:=.int .u8 r.st) rfl
 have c4:=HG2.out.cx (j:=4) (v:=.bool r.cp) rfl
 have c8:=HG2.out.cx (j:=8) (v:=.int .i64 r.d) rfl
 have c9:=HG2.out.cx (j:=9) (v:=.int .u8 r.o) rfl
 rw [hk] at c0
 obtain⟨cy,cf⟩:=HG2.out.cy (j:=2) (v:=.int .u32 0) rfl
 go_upto_region 25 with (fail)
 clear cy cf
 have hq:=HG2.out.put 2 (.int .u32 r.tx) (rm 7 0 r.tx 0 false 0 0 0 0 0) rfl
 generalize w2.setCell ⟨Y,2,none⟩ (.int .u32 r.tx)=w3 at *
 have HG3:=hid hq
 clear hq HG2
 clear c0 c1 c2 c3 c4 c8 c9
 have c0:=HG3.out.cx (j:=0) (v:=.int .u8 r.k) rfl
 have c1:=HG3.out.cx (j:=1) (v:=.int .u32 r.sg) rfl
 have c2:=HG3.out.cx (j:=2) (v:=.int .u32 r.tx) rfl
 have c3:=HG3.out.cx (j:=3) (v:=.int .u8 r.st) rfl
 have c4:=HG3.out.cx (j:=4) (v:=.bool r.cp) rfl
 have c8:=HG3.out.cx (j:=8) (v:=.int .i64 r.d) rfl
 have c9:=HG3.out.cx (j:=9) (v:=.int .u8 r.o) rfl
 rw [hk] at c0
 have HA:Hid (z1k (r.x L T M)=((r.tx != 0) && decide (r.x L T M=(Rv.x (rm 7 0 r.tx 0 false 0 0 0 0 0) [] [] [])))):=hid (by
  have e:r.x L T M=⟨7,r.sg,r.tx,r.st,r.cp,(r.ka,r.kb,r.kc),r.d,r.o,r.pg L T M⟩:=by unfold Rv.x;rw [hk]
  rw [e,gk4 _ _ _ _ _ _ _ _ _ (Or.inr (Or.inr rfl))]
  rfl)
 obtain⟨z,hz⟩:∃ z,decide (r.x L T M=(Rv.x (rm 7 0 r.tx 0 false 0 0 0 0 0) [] [] []))=z:=⟨_,rfl⟩
 rw [hz] at HA
 have HSM:=hid (fun w (h:Gz W w B Y r (rm 7 0 r.tx 0 false 0 0 0 0 0))=>z3e r (rm 7 0 r.tx 0 false 0 0 0 0 0) L T M [] [] [] w (HP.out.later h.below) (z4o _ _ _ _ _ _ _ _ _ _ _) HH.out ⟨Nat.zero_le _,Nat.zero_le _,Nat.zero_le _⟩)
 rw [hz] at HSM
 clear hz hk
 have HGX:=HG3
 clear HG3
 cases qtx:(r.tx != 0)
 case false =>
  go_wp2_with (first | ((with_reducible refine z0f HGX.out.x ?_ ?_ ?_);rfl;rfl) | ((with_reducible refine z0f HGX.out.y ?_ ?_ ?_);rfl;rfl) | ((with_reducible refine z0h HGX.out.x ?_ ?_ ?_);rfl;rfl) | ((with_reducible refine z0i HGX.out.x ?_ ?_ ?_);rfl;rfl))
  go_ret
  exact⟨by rw [HA.out,qtx];rfl,HGX.out.below⟩
 go_wp2_with (first | ((with_reducible refine z0f HGX.out.x ?_ ?_ ?_);rfl;rfl) | ((with_reducible refine z0f HGX.out.y ?_ ?_ ?_);rfl;rfl) | ((with_reducible refine z0h HGX.out.x ?_ ?_ ?_);rfl;rfl) | ((with_reducible refine z0i HGX.out.x ?_ ?_ ?_);rfl;rfl))
 refine (HSM.out w3 HGX.out).mono ?_
 rintro e w4 ⟨rfl,hcb⟩
 have HB9:=hid (HGX.out.below.trans (hcb.mono HGX.out.below.size))
 clear hcb
 clear c0 c1 c2 c3 c4 c8 c9
 go_wp2_with fail
 go_ret
 exact⟨by rw [HA.out,qtx];rfl,HB9.out⟩
theorem rrec_good8 (r:Rv) (L:List Ln) (T:List Tk) (M:List Ln) (W:World) (hP:RvM W r L T M) (hok:Rxok (r.x L T M)) (h1:r.ln≤1000∧r.tn≤1000∧r.wn≤1000) (hk:r.k=8):Calls Tryz.prog 47 #[.agg (rcs r)] W fun e w'=>e=.returned (.bool (z1k (r.x L T M)))∧Below W.heap.size W w':=by
 have HOK:=hid hok
 have HP:=hid hP
 have HH:=hid h1
 clear hok hP h1
 obtain⟨W1,hW1,hb1⟩:∃ W1,W.alloc (.cells (rcs r) 51)=W1∧Below W.heap.size W W1:=⟨_,rfl,(Below.refl _ _).alloc (Nat.le_refl _) _⟩
 obtain⟨B,hB⟩:∃ B,W.heap.size=B:=⟨_,rfl⟩
 have hrb:=RB.new W r
 rw [hW1,hB] at hrb
 obtain⟨Y,hY⟩:∃ Y,W1.heap.size=Y:=⟨_,rfl⟩
 have hBY:B<Y:=by have:=hrb.lt;omega
 obtain⟨w1,hw1,hx1,hb1a⟩:∃ w1,W1.alloc (.cells zr 51)=w1∧RB w1 Y rz∧Below W1.heap.size W1 w1:=⟨_,rfl,by rw [← hY];exact z0e W1 _,(Below.refl _ _).alloc (Nat.le_refl _) _⟩
 have hG1:Gz W w1 B Y r rz:=⟨hrb.later hb1a,hx1,hb1.trans (hb1a.mono hb1.size),by omega,hBY⟩
 obtain⟨w2,hw2,hG2⟩:∃ w2,w1.setRow Y (rcs (rm 8 0 0 0 false 0 0 0 0 0))=w2∧Gz W w2 B Y r (rm 8 0 0 0 false 0 0 0 0 0):=⟨_,rfl,hG1.set _⟩
 have HX1:=hid hrb
 have HW1:=hid hW1
 have HRE:=hid hB
 have HYE:=hid hY
 have HW1a:=hid hw1
 have HXZ:=hid hx1
 have HW2:=hid hw2
 have HG2:=hid hG2
 have c0:W1.cell? ⟨B,0,none⟩=some (.int .u8 r.k):=z0a hrb rfl
 rw [hk] at c0
 clear hW1 hB hY hBY hw1 hx1 hb1a hG1 hw2 hG2 hb1 hrb
 have HHK:=hid hk
 go_enter Tryz.func47,Tryz.ntmps47
 go_upto_region 1 with (fail)
 rw [HW1.out,HRE.out]
 go_upto_region 2 with ((try rw [HYE.out]);(try rw [HW1a.out]);(with_reducible refine z1a (rm 8 0 0 0 false 0 0 0 0 0) HXZ.out ?_ ?_ ?_);rfl;rfl;rw [HW2.out])
 clear c0 HX1 HW1 HRE HYE HW1a HXZ HW2
 have c0:=HG2.out.cx (j:=0) (v:=.int .u8 r.k) rfl
 have c1:=HG2.out.cx (j:=1) (v:=.int .u32 r.sg) rfl
 have c2:=HG2.out.cx (j:=2) (v:=.int .u32 r.tx) rfl
 have c3:=HG2.out.cx (j:=3) (v:=.int .u8 r.st) rfl
 have c4:=HG2.out.cx (j:=4) (v:=.bool r.cp) rfl
 have c8:=HG2.out.cx (j:=8) (v:=.int .i64 r.d) rfl
 have c9:=HG2.out.cx (j:=9) (v:=.int .u8 r.o) rfl
 rw [hk] at c0
 obtain⟨cy,cf⟩:=HG2.out.cy (j:=1) (v:=.int .u32 0) rfl
 go_upto_region 28 with (fail)
 clear cy cf
 have hq:=HG2.out.put 1 (.int .u32 r.sg) (rm 8 r.sg 0 0 false 0 0 0 0 0) rfl
 generalize w2.setCell ⟨Y,1,none⟩ (.int .u32 r.sg)=w3 at *
 have HG3:=hid hq
 clear hq HG2
 clear c0 c1 c2 c3 c4 c8 c9
 have c0:=HG3.out.cx (j:=0) (v:=.int .u8 r.k) rfl
 have c1:=HG3.out.cx (j:=1) (v:=.int .u32 r.sg) rfl
 have c2:=HG3.out.cx (j:=2) (v:=.int .u32 r.tx) rfl
 have c3:=HG3.out.cx (j:=3) (v:=.int .u8 r.st) rfl
 have c4:=HG3.out.cx (j:=4) (v:=.bool r.cp) rfl
 have c8:=HG3.out.cx (j:=8) (v:=.int .i64 r.d) rfl
 have c9:=HG3.out.cx (j:=9) (v:=.int .u8 r.o) rfl
 rw [hk] at c0
 have HA:Hid (z1k (r.x L T M)=((r.sg != 0) && decide (r.x L T M=(Rv.x (rm 8 r.sg 0 0 false 0 0 0 0 0) [] [] [])))):=hid (by
  have e:r.x L T M=⟨8,r.sg,r.tx,r.st,r.cp,(r.ka,r.kb,r.kc),r.d,r.o,r.pg L T M⟩:=by unfold Rv.x;rw [hk]
  rw [e,gk8 _ _ _ _ _ _ _ _]
  rfl)
 obtain⟨z,hz⟩:∃ z,decide (r.x L T M=(Rv.x (rm 8 r.sg 0 0 false 0 0 0 0 0) [] [] []))=z:=⟨_,rfl⟩
 rw [hz] at HA
 have HSM:=hid (fun w (h:Gz W w B Y r (rm 8 r.sg 0 0 false 0 0 0 0 0))=>z3e r (rm 8 r.sg 0 0 false 0 0 0 0 0) L T M [] [] [] w (HP.out.later h.below) (z4o _ _ _ _ _ _ _ _ _ _ _) HH.out ⟨Nat.zero_le _,Nat.zero_le _,Nat.zero_le _⟩)
 rw [hz] at HSM
 clear hz hk
 have HGX:=HG3
 clear HG3
 cases qsg:(r.sg != 0)
 case false =>
  go_wp2_with (first | ((with_reducible refine z0f HGX.out.x ?_ ?_ ?_);rfl;rfl) | ((with_reducible refine z0f HGX.out.y ?_ ?_ ?_);rfl;rfl) | ((with_reducible refine z0h HGX.out.x ?_ ?_ ?_);rfl;rfl) | ((with_reducible refine z0i HGX.out.x ?_ ?_ ?_);rfl;rfl))
  go_ret
  exact⟨by rw [HA.out,qsg];rfl,HGX.out.below⟩
 go_wp2_with (first | ((with_reducible refine z0f HGX.out.x ?_ ?_ ?_);rfl;rfl) | ((with_reducible refine z0f HGX.out.y ?_ ?_ ?_);rfl;rfl) | ((with_reducible refine z0h HGX.out.x ?_ ?_ ?_);rfl;rfl) | ((with_reducible refine z0i HGX.out.x ?_ ?_ ?_);rfl;rfl))
 refine (HSM.out w3 HGX.out).mono ?_
 rintro e w4 ⟨rfl,hcb⟩
 have HB9:=hid (HGX.out.below.trans (hcb.mono HGX.out.below.size))
 clear hcb
 clear c0 c1 c2 c3 c4 c8 c9
 go_wp2_with fail
 go_ret
 exact⟨by rw [HA.out,qsg];rfl,HB9.out⟩
theorem rrec_good9 (r:Rv) (L:List Ln) (T:List Tk) (M:List Ln) (W:World) (hP:RvM W r L T M) (hok:Rxok (r.x L T M)) (h1:r.ln≤1000∧r.tn≤1000∧r.wn≤1000) (hk:r.k=9):Calls Tryz.prog 47 #[.agg (rcs r)] W fun e w'=>e=.returned (.bool (z1k (r.x L T M)))∧Below W.heap.size W w':=by
 have HOK:=hid hok
 have HP:=hid hP
 have HH:=hid h1
 clear hok hP h1
 obtain⟨W1,hW1,hb1⟩:∃ W1,W.alloc (.cells (rcs r) 51)=W1∧Below W.heap.size W W1:=⟨_,rfl,(Below.refl _ _).alloc (Nat.le_refl _) _⟩
 obtain⟨B,hB⟩:∃ B,W.heap.size=B:=⟨_,rfl⟩
 have hrb:=RB.new W r
 rw [hW1,hB] at hrb
 obtain⟨Y,hY⟩:∃ Y,W1.heap.size=Y:=⟨_,rfl⟩
 have hBY:B<Y:=by have:=hrb.lt;omega
 obtain⟨w1,hw1,hx1,hb1a⟩:∃ w1,W1.alloc (.cells zr 51)=w1∧RB w1 Y rz∧Below W1.heap.size W1 w1:=⟨_,rfl,by rw [← hY];exact z0e W1 _,(Below.refl _ _).alloc (Nat.le_refl _) _⟩
 have hG1:Gz W w1 B Y r rz:=⟨hrb.later hb1a,hx1,hb1.trans (hb1a.mono hb1.size),by omega,hBY⟩
 obtain⟨w2,hw2,hG2⟩:∃ w2,w1.setRow Y (rcs (rm 9 0 0 0 false 0 0 0 0 0))=w2∧Gz W w2 B Y r (rm 9 0 0 0 false 0 0 0 0 0):=⟨_,rfl,hG1.set _⟩
 have HX1:=hid hrb
 have HW1:=hid hW1
 have HRE:=hid hB
 have HYE:=hid hY
 have HW1a:=hid hw1
 have HXZ:=hid hx1
 have HW2:=hid hw2
 have HG2:=hid hG2
 have c0:W1.cell? ⟨B,0,none⟩=some (.int .u8 r.k):=z0a hrb rfl
 rw [hk] at c0
 clear hW1 hB hY hBY hw1 hx1 hb1a hG1 hw2 hG2 hb1 hrb
 have HHK:=hid hk
 go_enter Tryz.func47,Tryz.ntmps47
 go_upto_region 1 with (fail)
 rw [HW1.out,HRE.out]
 go_upto_region 2 with ((try rw [HYE.out]);(try rw [HW1a.out]);(with_reducible refine z1a (rm 9 0 0 0 false 0 0 0 0 0) HXZ.out ?_ ?_ ?_);rfl;rfl;rw [HW2.out])
 clear c0 HX1 HW1 HRE HYE HW1a HXZ HW2
 have c0:=HG2.out.cx (j:=0) (v:=.int .u8 r.k) rfl
 have c1:=HG2.out.cx (j:=1) (v:=.int .u32 r.sg) rfl
 have c2:=HG2.out.cx (j:=2) (v:=.int .u32 r.tx) rfl
 have c3:=HG2.out.cx (j:=3) (v:=.int .u8 r.st) rfl
 have c4:=HG2.out.cx (j:=4) (v:=.bool r.cp) rfl
 have c8:=HG2.out.cx (j:=8) (v:=.int .i64 r.d) rfl
 have c9:=HG2.out.cx (j:=9) (v:=.int .u8 r.o) rfl
 rw [hk] at c0
 obtain⟨cy,cf⟩:=HG2.out.cy (j:=1) (v:=.int .u32 0) rfl
 go_upto_region 31 with (fail)
 clear cy cf
 have hq:=HG2.out.put 1 (.int .u32 r.sg) (rm 9 r.sg 0 0 false 0 0 0 0 0) rfl
 generalize w2.setCell ⟨Y,1,none⟩ (.int .u32 r.sg)=w3 at *
 have HG3:=hid hq
 clear hq HG2
 clear c0 c1 c2 c3 c4 c8 c9
 have c0:=HG3.out.cx (j:=0) (v:=.int .u8 r.k) rfl
 have c1:=HG3.out.cx (j:=1) (v:=.int .u32 r.sg) rfl
 have c2:=HG3.out.cx (j:=2) (v:=.int .u32 r.tx) rfl
 have c3:=HG3.out.cx (j:=3) (v:=.int .u8 r.st) rfl
 have c4:=HG3.out.cx (j:=4) (v:=.bool r.cp) rfl
 have c8:=HG3.out.cx (j:=8) (v:=.int .i64 r.d) rfl
 have c9:=HG3.out.cx (j:=9) (v:=.int .u8 r.o) rfl
 rw [hk] at c0
 obtain⟨cy,cf⟩:=HG3.out.cy (j:=9) (v:=.int .u8 0) rfl
 go_upto_region 32 with (fail)
 clear cy cf
 have hq:=HG3.out.put 9 (.int .u8 r.o) (rm 9 r.sg 0 0 false 0 0 0 0 r.o) rfl
 generalize w3.setCell ⟨Y,9,none⟩ (.int .u8 r.o)=w4 at *
 have HG4:=hid hq
 clear hq HG3
 clear c0 c1 c2 c3 c4 c8 c9
 have c0:=HG4.out.cx (j:=0) (v:=.int .u8 r.k) rfl
 have c1:=HG4.out.cx (j:=1) (v:=.int .u32 r.sg) rfl
 have c2:=HG4.out.cx (j:=2) (v:=.int .u32 r.tx) rfl
 have c3:=HG4.out.cx (j:=3) (v:=.int .u8 r.st) rfl
 have c4:=HG4.out.cx (j:=4) (v:=.bool r.cp) rfl
 have c8:=HG4.out.cx (j:=8) (v:=.int .i64 r.d) rfl
 have c9:=HG4.out.cx (j:=9) (v:=.int .u8 r.o) rfl
 rw [hk] at c0
 have HA:Hid (z1k (r.x L T M)=((r.sg != 0) && ((r.o==1) || (r.o==2)) && decide (r.x L T M=(Rv.x (rm 9 r.sg 0 0 false 0 0 0 0 r.o) [] [] [])))):=hid (by
  have e:r.x L T M=⟨9,r.sg,r.tx,r.st,r.cp,(r.ka,r.kb,r.kc),r.d,r.o,r.pg L T M⟩:=by unfold Rv.x;rw [hk]
  rw [e,gk9 _ _ _ _ _ _ _ _]
  rfl)
 obtain⟨z,hz⟩:∃ z,decide (r.x L T M=(Rv.x (rm 9 r.sg 0 0 false 0 0 0 0 r.o) [] [] []))=z:=⟨_,rfl⟩
 rw [hz] at HA
 have HSM:=hid (fun w (h:Gz W w B Y r (rm 9 r.sg 0 0 false 0 0 0 0 r.o))=>z3e r (rm 9 r.sg 0 0 false 0 0 0 0 r.o) L T M [] [] [] w (HP.out.later h.below) (z4o _ _ _ _ _ _ _ _ _ _ _) HH.out ⟨Nat.zero_le _,Nat.zero_le _,Nat.zero_le _⟩)
 rw [hz] at HSM
 clear hz hk
 have HGX:=HG4
 clear HG4
 cases qsg:(r.sg != 0)
 case false =>
  go_wp2_with (first | ((with_reducible refine z0f HGX.out.x ?_ ?_ ?_);rfl;rfl) | ((with_reducible refine z0f HGX.out.y ?_ ?_ ?_);rfl;rfl) | ((with_reducible refine z0h HGX.out.x ?_ ?_ ?_);rfl;rfl) | ((with_reducible refine z0i HGX.out.x ?_ ?_ ?_);rfl;rfl))
  go_ret
  exact⟨by rw [HA.out,qsg];rfl,HGX.out.below⟩
 cases qo1:(r.o==1)
 case false =>
  cases qo2:(r.o==2)
  case false =>
   go_wp2_with (first | ((with_reducible refine z0f HGX.out.x ?_ ?_ ?_);rfl;rfl) | ((with_reducible refine z0f HGX.out.y ?_ ?_ ?_);rfl;rfl) | ((with_reducible refine z0h HGX.out.x ?_ ?_ ?_);rfl;rfl) | ((with_reducible refine z0i HGX.out.x ?_ ?_ ?_);rfl;rfl))
   go_ret
   exact⟨by rw [HA.out,qsg,qo1,qo2];rfl,HGX.out.below⟩
  go_wp2_with (first | ((with_reducible refine z0f HGX.out.x ?_ ?_ ?_);rfl;rfl) | ((with_reducible refine z0f HGX.out.y ?_ ?_ ?_);rfl;rfl) | ((with_reducible refine z0h HGX.out.x ?_ ?_ ?_);rfl;rfl) | ((with_reducible refine z0i HGX.out.x ?_ ?_ ?_);rfl;rfl))
  refine (HSM.out w4 HGX.out).mono ?_
  rintro e w5 ⟨rfl,hcb⟩
  have HB9:=hid (HGX.out.below.trans (hcb.mono HGX.out.below.size))
  clear hcb
  clear c0 c1 c2 c3 c4 c8 c9
  go_wp2_with fail
  go_ret
  exact⟨by rw [HA.out,qsg,qo1,qo2];rfl,HB9.out⟩
 go_wp2_with (first | ((with_reducible refine z0f HGX.out.x ?_ ?_ ?_);rfl;rfl) | ((with_reducible refine z0f HGX.out.y ?_ ?_ ?_);rfl;rfl) | ((with_reducible refine z0h HGX.out.x ?_ ?_ ?_);rfl;rfl) | ((with_reducible refine z0i HGX.out.x ?_ ?_ ?_);rfl;rfl))
 refine (HSM.out w4 HGX.out).mono ?_
 rintro e w5 ⟨rfl,hcb⟩
 have HB9:=hid (HGX.out.below.trans (hcb.mono HGX.out.below.size))
 clear hcb
 clear c0 c1 c2 c3 c4 c8 c9
 go_wp2_with fail
 go_ret
 exact⟨by rw [HA.out,qsg,qo1];rfl,HB9.out⟩
theorem rrec_goodx (r:Rv) (L:List Ln) (T:List Tk) (M:List Ln) (W:World) (hP:RvM W r L T M) (hok:Rxok (r.x L T M)) (h1:r.ln≤1000∧r.tn≤1000∧r.wn≤1000) (hk:kOk r.k=false):Calls Tryz.prog 47 #[.agg (rcs r)] W fun e w'=>e=.returned (.bool (z1k (r.x L T M)))∧Below W.heap.size W w':=by
 have HOK:=hid hok
 have HA:Hid (z1k (r.x L T M)=false):=hid (by unfold z1k;rw [show kOk (r.x L T M).k=false from hk];rfl)
 obtain⟨n1,n2,n3,n4,n5,n6,n7,n8,n9⟩:=not_kOk hk
 have e1:(r.k==1)=false:=by simpa using n1
 have e2:(r.k==2)=false:=by simpa using n2
 have e3:(r.k==3)=false:=by simpa using n3
 have e4:(r.k==4)=false:=by simpa using n4
 have e5:(r.k==5)=false:=by simpa using n5
 have e6:(r.k==6)=false:=by simpa using n6
 have e7:(r.k==7)=false:=by simpa using n7
 have e8:(r.k==8)=false:=by simpa using n8
 have e9:(r.k==9)=false:=by simpa using n9
 clear hok hP h1 n1 n2 n3 n4 n5 n6 n7 n8 n9
 obtain⟨W1,hW1,hb1⟩:∃ W1,W.alloc (.cells (rcs r) 51)=W1∧Below W.heap.size W W1:=⟨_,rfl,(Below.refl _ _).alloc (Nat.le_refl _) _⟩
 obtain⟨B,hB⟩:∃ B,W.heap.size=B:=⟨_,rfl⟩
 have hrb:=RB.new W r
 rw [hW1,hB] at hrb
 obtain⟨Y,hY⟩:∃ Y,W1.heap.size=Y:=⟨_,rfl⟩
 have hBY:B<Y:=by have:=hrb.lt;omega
 obtain⟨w1,hw1,hx1,hb1a⟩:∃ w1,W1.alloc (.cells zr 51)=w1∧RB w1 Y rz∧Below W1.heap.size W1 w1:=⟨_,rfl,by rw [← hY];exact z0e W1 _,(Below.refl _ _).alloc (Nat.le_refl _) _⟩
 have hG1:Gz W w1 B Y r rz:=⟨hrb.later hb1a,hx1,hb1.trans (hb1a.mono hb1.size),by omega,hBY⟩
 obtain⟨w2,hw2,hG2⟩:∃ w2,w1.setRow Y (rcs (rm r.k 0 0 0 false 0 0 0 0 0))=w2∧Gz W w2 B Y r (rm r.k 0 0 0 false 0 0 0 0 0):=⟨_,rfl,hG1.set _⟩
 have HX1:=hid hrb
 have HW1:=hid hW1
 have HRE:=hid hB
 have HYE:=hid hY
 have HW1a:=hid hw1
 have HXZ:=hid hx1
 have HW2:=hid hw2
 have HG2:=hid hG2
 have c0:W1.cell? ⟨B,0,none⟩=some (.int .u8 r.k):=z0a hrb rfl
 clear hW1 hB hY hBY hw1 hx1 hb1a hG1 hw2 hG2 hb1 hrb
 have HHK:=hid hk
 go_enter Tryz.func47,Tryz.ntmps47
 go_upto_region 1 with (fail)
 rw [HW1.out,HRE.out]
 go_upto_region 2 with ((try rw [HYE.out]);(try rw [HW1a.out]);(with_reducible refine z1a (rm r.k 0 0 0 false 0 0 0 0 0) HXZ.out ?_ ?_ ?_);rfl;rfl;rw [HW2.out])
 clear c0 HX1 HW1 HRE HYE HW1a HXZ HW2
 have c0:=HG2.out.cx (j:=0) (v:=.int .u8 r.k) rfl
 clear hk
 go_wp2_with fail
 go_ret
 exact⟨by rw [HA.out];rfl,HG2.out.below⟩
theorem rrec_good (r:Rv) (L:List Ln) (T:List Tk) (M:List Ln) (W:World) (hP:RvM W r L T M) (hok:Rxok (r.x L T M)) (h1:r.ln≤1000∧r.tn≤1000∧r.wn≤1000):Calls Tryz.prog 47 #[.agg (rcs r)] W fun e w'=>e=.returned (.bool (z1k (r.x L T M)))∧Below W.heap.size W w':=by
 cases hk:kOk r.k with
 | true =>
  rcases z7b hk with h | h | h | h | h | h | h | h | h
  · exact rrec_good1 r L T M W hP hok h1 h
  · exact rrec_good2 r L T M W hP hok h1 h
  · exact rrec_good3 r L T M W hP hok h1 h
  · exact rrec_good4 r L T M W hP hok h1 h
  · exact rrec_good5 r L T M W hP hok h1 h
  · exact rrec_good6 r L T M W hP hok h1 h
  · exact rrec_good7 r L T M W hP hok h1 h
  · exact rrec_good8 r L T M W hP hok h1 h
  · exact rrec_good9 r L T M W hP hok h1 h
 | false=>exact rrec_goodx r L T M W hP hok h1 hk
theorem rn4 (x:Int) (h:0≤x∧x≤4294967295) (w:World):Calls Tryz.prog 87 #[.int .u64 x,.int .i64 4] w (z2z w 4 (le x.toNat 4)):=by
 have:=z5g x.toNat 4 w (by omega) (by omega)
 rw [Int.toNat_of_nonneg h.1] at this
 exact this
theorem vL_one1 {x:Int} (h:0≤x∧x≤255):(#[.int .u8 x]:Array Value).toList=vL [x.toNat]:=by
 simp [vL,Int.toNat_of_nonneg h.1]
theorem vL_one3 {x y z:Int} (h:0≤x∧x≤255) (g:0≤y∧y≤255) (i:0≤z∧z≤255):(#[.int .u8 x,.int .u8 y,.int .u8 z]:Array Value).toList=vL [x.toNat,y.toNat,z.toNat]:=by
 simp [vL,Int.toNat_of_nonneg h.1,Int.toNat_of_nonneg g.1,Int.toNat_of_nonneg i.1]
theorem z3m {x:Nat} (h:x<256):le x 1=[x]:=by simp [le,Nat.mod_eq_of_lt h]
theorem rrec_bytes1 (r:Rv) (L:List Ln) (T:List Tk) (M:List Ln) (W:World) (hP:RvM W r L T M) (hok:Rxok (r.x L T M)) (h1:r.ln≤20∧r.tn≤30∧r.wn≤20) (hk:r.k=1) (hg:z0u 4 4 (r.pg L T M)=true):Calls Tryz.prog 48 #[.agg (rcs r)] W (z2z W (z0n (r.x L T M)).length (z0n (r.x L T M))):=by
 obtain⟨W1,hW1,hb1⟩:∃ W1,W.alloc (.cells (rcs r) 51)=W1∧Below W.heap.size W W1:=⟨_,rfl,(Below.refl _ _).alloc (Nat.le_refl _) _⟩
 obtain⟨B,hB⟩:∃ B,W.heap.size=B:=⟨_,rfl⟩
 have hrb:=RB.new W r
 rw [hW1,hB] at hrb
 have h0:FB W1 (W1.alloc (.cells #[.int .u8 1] 5)) (.slice (some ⟨W1.heap.size,0,none⟩) 1 1) [1]:=FB.lit (m:=1) (Below.refl _ _) rfl rfl (by omega) (fun x hx=>by obtain rfl:=List.mem_singleton.1 hx;omega)
 obtain⟨w1,hw1⟩:∃ w1,W1.alloc (.cells #[.int .u8 1] 5)=w1:=⟨_,rfl⟩
 rw [hw1] at h0
 have Hw1:=hid hw1
 have H1:=hid h0
 have HX1:=hid hrb
 have HW1:=hid hW1
 have HB1:=hid hb1
 have HRE:=hid hB
 have HOK:=hid hok
 have HP:=hid hP
 have HH:=hid h1
 have u1:IntKind.u64.wrap r.sg=r.sg:=z0q hok.sg
 have u2:IntKind.u64.wrap r.tx=r.tx:=z0q hok.tx
 have HGG:=hid hg
 clear hg
 have HGX:=hid (HX1.out)
 obtain⟨c0,c1,c2,c3,c4,c5,c6,c7,c8,c9⟩:=HGX.out.at
 rw [hk] at c0
 clear hW1 hB hb1 hrb hP h0 hw1 h1 hok
 go_enter Tryz.func48,Tryz.ntmps48
 go_upto_region 1 with (fail)
 rw [HW1.out,HRE.out]
 go_upto_region 2 with (fail)
 rw [Hw1.out]
 clear c0 c1 c2 c3 c4 c5 c6 c7 c8 c9
 obtain⟨v1,hv1⟩:∃ v1,Value.slice (some ⟨W1.heap.size,0,none⟩) 1 1=v1:=⟨_,rfl⟩
 rw [hv1] at H1 ⊢
 clear hv1
 obtain⟨B1,hB1⟩:∃ B1,[1]=B1:=⟨_,rfl⟩
 obtain⟨m1,hm1⟩:∃ m1,1=m1:=⟨_,rfl⟩
 have hq1:m1≤1:=by omega
 have HL1:Hid (B1.length=m1):=hid (by rw [← hB1,← hm1];rfl)
 clear hm1
 rw [hB1] at H1
 have HBq1:=hid hB1
 clear hB1
 have HGX:=hid (HX1.out.later H1.out.below)
 obtain⟨c0,c1,c2,c3,c4,c5,c6,c7,c8,c9⟩:=HGX.out.at
 rw [hk] at c0
 go_wp2_with fail
 refine (rn4 r.sg HOK.out.sg w1).mono ?_
 rintro e xs ⟨vv,rfl,hrow,hbs,_⟩
 obtain⟨ps,cs,hv,_,hsl,_⟩:=hrow.sl
 subst hv
 have HBS:=hid hbs.size
 have HFs:=hid (H1.out.later hbs)
 have HSs:=hid hsl
 clear hrow hbs hsl
 clear c0 c1 c2 c3 c4 c5 c6 c7 c8 c9
 have HGX:=hid (HX1.out.later HFs.out.below)
 obtain⟨c0,c1,c2,c3,c4,c5,c6,c7,c8,c9⟩:=HGX.out.at
 rw [hk] at c0
 go_wp2_with fail
 refine (rn4 r.tx HOK.out.tx xs).mono ?_
 rintro e xt ⟨vv,rfl,hrow,hbt,hot⟩
 obtain⟨pt,ct,hv,_,hsl,hqt⟩:=hrow.sl
 have HPT:Hid (∀ a,pt=some a→w1.heap.size≤a.block):=hid fun a ha=>by have h1:=hot _ (hqt a ha);have h2:=HBS.out;omega
 have HV1:Hid (∀ k,v1.ownBlock=some k→k<w1.heap.size):=hid H1.out.row.bound
 clear hot hqt
 subst hv
 have HFt:=hid (HFs.out.later hbt)
 have HSt:=hid hsl
 have HSs:=hid (HSs.out.later hbt)
 clear hrow hbt hsl
 clear c0 c1 c2 c3 c4 c5 c6 c7 c8 c9
 have HGX:=hid (HX1.out.later HFt.out.below)
 obtain⟨c0,c1,c2,c3,c4,c5,c6,c7,c8,c9⟩:=HGX.out.at
 rw [hk] at c0
 go_upto_region 7 with (at_builtin;refine z0j (k:=1) (by decide) Tryz.underlying33 z0x rfl (by omega) rfl _ _ rfl v1 m1 (vL B1) rfl (by rw [← HL1.out];exact HFt.out.row.own) ps 4 cs (vL (le r.sg.toNat 4)) rfl (by rw [z1h,Nat.mul_one];exact HSs.out.len) (z2c HSs.out) (z2e HSs.out) (z1t _) (by omega) ?_;intro pn cn w3 h1 h2 h3)
 have hf:=HFt.out.app (M:=(le r.sg.toNat 4)) HSs.out.lt h1 h2 h3
 clear h1 h2 h3
 generalize hB2:B1++(le r.sg.toNat 4)=B2 at hf
 have HBq2:=hid hB2
 have HL2:Hid (B2.length=m1+4):=hid (by rw [← hB2,List.length_append,HL1.out];first | rfl | (simp only [z0o];try omega))
 generalize Value.slice pn (m1+4) cn=v2 at *
 have H2:=hid hf
 clear hf hB2
 obtain⟨m2,hm2⟩:∃ z,m1+4=z:=⟨_,rfl⟩
 have hq2:m2≤m1+4:=by omega
 rw [hm2] at HL2
 clear hm2
 obtain⟨w2,hw2x⟩:∃ x,x=w3:=⟨_,rfl⟩
 subst hw2x
 clear c0 c1 c2 c3 c4 c5 c6 c7 c8 c9
 have HGX:=hid (HX1.out.later H2.out.below)
 obtain⟨c0,c1,c2,c3,c4,c5,c6,c7,c8,c9⟩:=HGX.out.at
 rw [hk] at c0
 go_wp2_with ((with_reducible refine z2t HGX.out ?_ ?_);rfl)
 refine (rbytes_p r.pk r.od r.po r.lp r.ln r.lcp r.tp r.tn r.tcp r.wp r.wn r.wcp r.sk r.fr r.to r.q L T M w2 (HP.out.later (HB1.out.trans (H2.out.below.mono HB1.out.size))) HOK.out.pg HH.out).mono ?_
 have hpe:z1x ⟨r.pk,r.od,r.po,L,T,M,r.sk,r.fr,r.to,r.q⟩=z1x (r.pg L T M):=rfl
 rw [hpe]
 have hpf:=q1v HGG.out
 generalize hyp:z1x (r.pg L T M)=Yp at *
 have HYP:=hid hyp
 generalize hny:Yp.length=ny at *
 have HNY:=hid hny
 rintro e y2 ⟨vv,rfl,hrow,hb4,_⟩
 obtain⟨pw,cw,hv,_,hsl,_⟩:=hrow.sl
 subst hv
 have HF4:=hid (H2.out.later hb4)
 have HS4:=hid hsl
 clear hrow hb4 hsl hny hpe hyp
 clear c0 c1 c2 c3 c4 c5 c6 c7 c8 c9
 go_wp2_with fail
 refine (rbytes_any pw ny cw Yp y2 HS4.out (by omega)).mono ?_
 rintro e z2 ⟨vv,rfl,hrow,hb5,_⟩
 obtain⟨px,cx,hv,_,hsl,_⟩:=hrow.sl
 subst hv
 have HFA:=hid (HF4.out.later hb5)
 have HSL:=hid hsl
 clear hrow hb5 hsl HS4
 go_wp2_with (first | (at_builtin;refine z0j (k:=1) (by decide) Tryz.underlying33 z0x rfl (by omega) rfl _ _ rfl v2 m2 (vL B2) rfl (by rw [← HL2.out];exact HFA.out.row.own) px (2+ny) cx (vL (le ny 2++Yp)) rfl (by rw [z1h,Nat.mul_one];exact HSL.out.len) (z2c HSL.out) (z2e HSL.out) (z1t _) (by omega) ?_;intro pn cn w3 h1 h2 h3))
 have hf:=HFA.out.app (M:=(le ny 2++Yp)) HSL.out.lt h1 h2 h3
 clear h1 h2 h3
 generalize hB3:B2++(le ny 2++Yp)=B3 at hf
 have HBq3:=hid hB3
 have HL3:Hid (B3.length=m2+(2+ny)):=hid (by rw [← hB3,List.length_append,HL2.out];simp only [List.length_append,z0o];have:=HNY.out;omega)
 generalize Value.slice pn (m2+(2+ny)) cn=v3 at *
 have H3:=hid hf
 clear hf hB3
 obtain⟨m3,hm3⟩:∃ z,m2+(2+ny)=z:=⟨_,rfl⟩
 have hq3:m3≤m2+(2+ny):=by omega
 rw [hm3] at HL3
 clear hm3
 obtain⟨w3,hw3x⟩:∃ x,x=w3:=⟨_,rfl⟩
 subst hw3x
 go_ret
 have hst:le r.st.toNat 1=[r.st.toNat]:=z3m (by have e:=HOK.out.st;change 0≤r.st∧r.st≤255 at e;omega)
 have hoo:le r.o.toNat 1=[r.o.toNat]:=z3m (by have e:=HOK.out.o;change 0≤r.o∧r.o≤255 at e;omega)
 have hfin:z0n (r.x L T M)=B3:=by
  rw [← HBq3.out,← HBq2.out,← HBq1.out]
  unfold z0n
  rw [show (r.x L T M).k=1 from hk,show le (1:Int).toNat 1=[1] from rfl]
  simp [kS,kT,kB,kA,kO,kP,Rv.x,keyB,List.append_assoc,hst,hoo,HYP.out,HNY.out]
 rw [hfin]
 exact⟨_,rfl,H3.out.row,HB1.out.trans (H3.out.below.mono HB1.out.size),fun k hk=>Nat.le_trans HB1.out.size (H3.out.own k hk)⟩
theorem rrec_bytes2 (r:Rv) (L:List Ln) (T:List Tk) (M:List Ln) (W:World) (hP:RvM W r L T M) (hok:Rxok (r.x L T M)) (h1:r.ln≤20∧r.tn≤30∧r.wn≤20) (hk:r.k=2):Calls Tryz.prog 48 #[.agg (rcs r)] W (z2z W (z0n (r.x L T M)).length (z0n (r.x L T M))):=by
 obtain⟨W1,hW1,hb1⟩:∃ W1,W.alloc (.cells (rcs r) 51)=W1∧Below W.heap.size W W1:=⟨_,rfl,(Below.refl _ _).alloc (Nat.le_refl _) _⟩
 obtain⟨B,hB⟩:∃ B,W.heap.size=B:=⟨_,rfl⟩
 have hrb:=RB.new W r
 rw [hW1,hB] at hrb
 have h0:FB W1 (W1.alloc (.cells #[.int .u8 2] 5)) (.slice (some ⟨W1.heap.size,0,none⟩) 1 1) [2]:=FB.lit (m:=1) (Below.refl _ _) rfl rfl (by omega) (fun x hx=>by obtain rfl:=List.mem_singleton.1 hx;omega)
 obtain⟨w1,hw1⟩:∃ w1,W1.alloc (.cells #[.int .u8 2] 5)=w1:=⟨_,rfl⟩
 rw [hw1] at h0
 have Hw1:=hid hw1
 have H1:=hid h0
 have HX1:=hid hrb
 have HW1:=hid hW1
 have HB1:=hid hb1
 have HRE:=hid hB
 have HOK:=hid hok
 have HP:=hid hP
 have HH:=hid h1
 have u1:IntKind.u64.wrap r.sg=r.sg:=z0q hok.sg
 have u2:IntKind.u64.wrap r.tx=r.tx:=z0q hok.tx
 have HGX:=hid (HX1.out)
 obtain⟨c0,c1,c2,c3,c4,c5,c6,c7,c8,c9⟩:=HGX.out.at
 rw [hk] at c0
 clear hW1 hB hb1 hrb hP h0 hw1 h1 hok
 go_enter Tryz.func48,Tryz.ntmps48
 go_upto_region 1 with (fail)
 rw [HW1.out,HRE.out]
 go_upto_region 2 with (fail)
 rw [Hw1.out]
 clear c0 c1 c2 c3 c4 c5 c6 c7 c8 c9
 obtain⟨v1,hv1⟩:∃ v1,Value.slice (some ⟨W1.heap.size,0,none⟩) 1 1=v1:=⟨_,rfl⟩
 rw [hv1] at H1 ⊢
 clear hv1
 obtain⟨B1,hB1⟩:∃ B1,[2]=B1:=⟨_,rfl⟩
 obtain⟨m1,hm1⟩:∃ m1,1=m1:=⟨_,rfl⟩
 have hq1:m1≤1:=by omega
 have HL1:Hid (B1.length=m1):=hid (by rw [← hB1,← hm1];rfl)
 clear hm1
 rw [hB1] at H1
 have HBq1:=hid hB1
 clear hB1
 have HGX:=hid (HX1.out.later H1.out.below)
 obtain⟨c0,c1,c2,c3,c4,c5,c6,c7,c8,c9⟩:=HGX.out.at
 rw [hk] at c0
 go_wp2_with fail
 refine (rn4 r.sg HOK.out.sg w1).mono ?_
 rintro e xs ⟨vv,rfl,hrow,hbs,_⟩
 obtain⟨ps,cs,hv,_,hsl,_⟩:=hrow.sl
 subst hv
 have HBS:=hid hbs.size
 have HFs:=hid (H1.out.later hbs)
 have HSs:=hid hsl
 clear hrow hbs hsl
 clear c0 c1 c2 c3 c4 c5 c6 c7 c8 c9
 have HGX:=hid (HX1.out.later HFs.out.below)
 obtain⟨c0,c1,c2,c3,c4,c5,c6,c7,c8,c9⟩:=HGX.out.at
 rw [hk] at c0
 go_wp2_with fail
 refine (rn4 r.tx HOK.out.tx xs).mono ?_
 rintro e xt ⟨vv,rfl,hrow,hbt,hot⟩
 obtain⟨pt,ct,hv,_,hsl,hqt⟩:=hrow.sl
 have HPT:Hid (∀ a,pt=some a→w1.heap.size≤a.block):=hid fun a ha=>by have h1:=hot _ (hqt a ha);have h2:=HBS.out;omega
 have HV1:Hid (∀ k,v1.ownBlock=some k→k<w1.heap.size):=hid H1.out.row.bound
 clear hot hqt
 subst hv
 have HFt:=hid (HFs.out.later hbt)
 have HSt:=hid hsl
 have HSs:=hid (HSs.out.later hbt)
 clear hrow hbt hsl
 clear c0 c1 c2 c3 c4 c5 c6 c7 c8 c9
 have HGX:=hid (HX1.out.later HFt.out.below)
 obtain⟨c0,c1,c2,c3,c4,c5,c6,c7,c8,c9⟩:=HGX.out.at
 rw [hk] at c0
 go_upto_region 10 with (at_builtin;refine z0j (k:=1) (by decide) Tryz.underlying33 z0x rfl (by omega) rfl _ _ rfl v1 m1 (vL B1) rfl (by rw [← HL1.out];exact HFt.out.row.own) ps 4 cs (vL (le r.sg.toNat 4)) rfl (by rw [z1h,Nat.mul_one];exact HSs.out.len) (z2c HSs.out) (z2e HSs.out) (z1t _) (by omega) ?_;intro pn cn w3 h1 h2 h3)
 have hf:=HFt.out.app (M:=(le r.sg.toNat 4)) HSs.out.lt h1 h2 h3
 have HSt2:=hid (HSt.out.keep fun a ha hlt=>h2.block a.block hlt fun e=>by have:=HPT.out a ha;have:=HV1.out _ e;omega)
 clear h1 h2 h3
 generalize hB2:B1++(le r.sg.toNat 4)=B2 at hf
 have HBq2:=hid hB2
 have HL2:Hid (B2.length=m1+4):=hid (by rw [← hB2,List.length_append,HL1.out];first | rfl | (simp only [z0o];try omega))
 generalize Value.slice pn (m1+4) cn=v2 at *
 have H2:=hid hf
 clear hf hB2
 obtain⟨m2,hm2⟩:∃ z,m1+4=z:=⟨_,rfl⟩
 have hq2:m2≤m1+4:=by omega
 rw [hm2] at HL2
 clear hm2
 obtain⟨w2,hw2x⟩:∃ x,x=w3:=⟨_,rfl⟩
 subst hw2x
 clear c0 c1 c2 c3 c4 c5 c6 c7 c8 c9
 have HGX:=hid (HX1.out.later H2.out.below)
 obtain⟨c0,c1,c2,c3,c4,c5,c6,c7,c8,c9⟩:=HGX.out.at
 rw [hk] at c0
 go_upto_region 11 with (at_builtin;refine z0j (k:=1) (by decide) Tryz.underlying33 z0x rfl (by omega) rfl _ _ rfl v2 m2 (vL B2) rfl (by rw [← HL2.out];exact H2.out.row.own) pt 4 ct (vL (le r.tx.toNat 4)) rfl (by rw [z1h,Nat.mul_one];exact HSt2.out.len) (z2c HSt2.out) (z2e HSt2.out) (z1t _) (by omega) ?_;intro pn cn w3 h1 h2 h3)
 have hf:=H2.out.app (M:=(le r.tx.toNat 4)) HSt2.out.lt h1 h2 h3
 clear h1 h2 h3
 generalize hB3:B2++(le r.tx.toNat 4)=B3 at hf
 have HBq3:=hid hB3
 have HL3:Hid (B3.length=m2+4):=hid (by rw [← hB3,List.length_append,HL2.out];first | rfl | (simp only [z0o];try omega))
 generalize Value.slice pn (m2+4) cn=v3 at *
 have H3:=hid hf
 clear hf hB3
 obtain⟨m3,hm3⟩:∃ z,m2+4=z:=⟨_,rfl⟩
 have hq3:m3≤m2+4:=by omega
 rw [hm3] at HL3
 clear hm3
 obtain⟨w3,hw3x⟩:∃ x,x=w3:=⟨_,rfl⟩
 subst hw3x
 clear c0 c1 c2 c3 c4 c5 c6 c7 c8 c9
 have HGX:=hid (HX1.out.later H3.out.below)
 obtain⟨c0,c1,c2,c3,c4,c5,c6,c7,c8,c9⟩:=HGX.out.at
 rw [hk] at c0
 have HFA:=hid (H3.out.later (show Below w3.heap.size w3 (w3.alloc (.cells #[.int .u8 r.st] 5)) from (Below.refl _ _).alloc (Nat.le_refl _) _))
 go_upto_region 12 with (at_builtin;refine z0j (k:=1) (by decide) Tryz.underlying33 z0x rfl (by omega) rfl _ _ rfl v3 m3 (vL B3) rfl (by rw [← HL3.out];exact HFA.out.row.own) (some ⟨w3.heap.size,0,none⟩) 1 1 (vL [r.st.toNat]) rfl (by rw [z1h];rfl) (fun h=>by cases h) (z3k w3 #[.int .u8 r.st] [r.st.toNat] (vL_one1 HOK.out.st)) (z1t _) (by omega) ?_;intro pn cn w3 h1 h2 h3)
 have hf:=HFA.out.app (M:=[r.st.toNat]) (fun y hy=>by obtain rfl:=List.mem_singleton.1 hy;have:=HOK.out.st;change 0≤r.st∧r.st≤255 at this;omega) h1 h2 h3
 clear h1 h2 h3
 generalize hB4:B3 ++ [r.st.toNat]=B4 at hf
 have HBq4:=hid hB4
 have HL4:Hid (B4.length=m3+1):=hid (by rw [← hB4,List.length_append,HL3.out];first | rfl | (simp only [z0o];try omega))
 generalize Value.slice pn (m3+1) cn=v4 at *
 have H4:=hid hf
 clear hf hB4
 obtain⟨m4,hm4⟩:∃ z,m3+1=z:=⟨_,rfl⟩
 have hq4:m4≤m3+1:=by omega
 rw [hm4] at HL4
 clear hm4
 obtain⟨w4,hw4x⟩:∃ x,x=w3:=⟨_,rfl⟩
 subst hw4x
 clear c0 c1 c2 c3 c4 c5 c6 c7 c8 c9
 have HGX:=hid (HX1.out.later H4.out.below)
 obtain⟨c0,c1,c2,c3,c4,c5,c6,c7,c8,c9⟩:=HGX.out.at
 rw [hk] at c0
 go_wp2_with fail
 refine (rbool_any r.cp w4).mono ?_
 rintro e y4 ⟨pw,cw,rfl,hsl,hb4⟩
 have HFA:=hid (H4.out.later hb4)
 have HSL:=hid hsl
 clear hb4 hsl
 clear c0 c1 c2 c3 c4 c5 c6 c7 c8 c9
 go_wp2_with (first | (at_builtin;refine z0j (k:=1) (by decide) Tryz.underlying33 z0x rfl (by omega) rfl _ _ rfl v4 m4 (vL B4) rfl (by rw [← HL4.out];exact HFA.out.row.own) pw 1 cw (vL [bitN r.cp]) rfl (by rw [z1h,Nat.mul_one];exact HSL.out.len) (z2c HSL.out) (z2e HSL.out) (z1t _) (by omega) ?_;intro pn cn w3 h1 h2 h3))
 have hf:=HFA.out.app (M:=[bitN r.cp]) HSL.out.lt h1 h2 h3
 clear h1 h2 h3
 generalize hB5:B4 ++ [bitN r.cp]=B5 at hf
 have HBq5:=hid hB5
 have HL5:Hid (B5.length=m4+1):=hid (by rw [← hB5,List.length_append,HL4.out];first | rfl | (simp only [z0o];try omega))
 generalize Value.slice pn (m4+1) cn=v5 at *
 have H5:=hid hf
 clear hf hB5
 obtain⟨m5,hm5⟩:∃ z,m4+1=z:=⟨_,rfl⟩
 have hq5:m5≤m4+1:=by omega
 rw [hm5] at HL5
 clear hm5
 obtain⟨w5,hw5x⟩:∃ x,x=w3:=⟨_,rfl⟩
 subst hw5x
 go_ret
 have hst:le r.st.toNat 1=[r.st.toNat]:=z3m (by have e:=HOK.out.st;change 0≤r.st∧r.st≤255 at e;omega)
 have hoo:le r.o.toNat 1=[r.o.toNat]:=z3m (by have e:=HOK.out.o;change 0≤r.o∧r.o≤255 at e;omega)
 have hfin:z0n (r.x L T M)=B5:=by
  rw [← HBq5.out,← HBq4.out,← HBq3.out,← HBq2.out,← HBq1.out]
  unfold z0n
  rw [show (r.x L T M).k=2 from hk,show le (2:Int).toNat 1=[2] from rfl]
  simp [kS,kT,kB,kA,kO,kP,Rv.x,keyB,List.append_assoc,hst,hoo]
 rw [hfin]
 exact⟨_,rfl,H5.out.row,HB1.out.trans (H5.out.below.mono HB1.out.size),fun k hk=>Nat.le_trans HB1.out.size (H5.out.own k hk)⟩
theorem rrec_bytes3 (r:Rv) (L:List Ln) (T:List Tk) (M:List Ln) (W:World) (hP:RvM W r L T M) (hok:Rxok (r.x L T M)) (h1:r.ln≤20∧r.tn≤30∧r.wn≤20) (hk:r.k=3):Calls Tryz.prog 48 #[.agg (rcs r)] W (z2z W (z0n (r.x L T M)).length (z0n (r.x L T M))):=by
 obtain⟨W1,hW1,hb1⟩:∃ W1,W.alloc (.cells (rcs r) 51)=W1∧Below W.heap.size W W1:=⟨_,rfl,(Below.refl _ _).alloc (Nat.le_refl _) _⟩
 obtain⟨B,hB⟩:∃ B,W.heap.size=B:=⟨_,rfl⟩
 have hrb:=RB.new W r
 rw [hW1,hB] at hrb
 have h0:FB W1 (W1.alloc (.cells #[.int .u8 3] 5)) (.slice (some ⟨W1.heap.size,0,none⟩) 1 1) [3]:=FB.lit (m:=1) (Below.refl _ _) rfl rfl (by omega) (fun x hx=>by obtain rfl:=List.mem_singleton.1 hx;omega)
 obtain⟨w1,hw1⟩:∃ w1,W1.alloc (.cells #[.int .u8 3] 5)=w1:=⟨_,rfl⟩
 rw [hw1] at h0
 have Hw1:=hid hw1
 have H1:=hid h0
 have HX1:=hid hrb
 have HW1:=hid hW1
 have HB1:=hid hb1
 have HRE:=hid hB
 have HOK:=hid hok
 have HP:=hid hP
 have HH:=hid h1
 have u1:IntKind.u64.wrap r.sg=r.sg:=z0q hok.sg
 have u2:IntKind.u64.wrap r.tx=r.tx:=z0q hok.tx
 have HGX:=hid (HX1.out)
 obtain⟨c0,c1,c2,c3,c4,c5,c6,c7,c8,c9⟩:=HGX.out.at
 rw [hk] at c0
 clear hW1 hB hb1 hrb hP h0 hw1 h1 hok
 go_enter Tryz.func48,Tryz.ntmps48
 go_upto_region 1 with (fail)
 rw [HW1.out,HRE.out]
 go_upto_region 2 with (fail)
 rw [Hw1.out]
 clear c0 c1 c2 c3 c4 c5 c6 c7 c8 c9
 obtain⟨v1,hv1⟩:∃ v1,Value.slice (some ⟨W1.heap.size,0,none⟩) 1 1=v1:=⟨_,rfl⟩
 rw [hv1] at H1 ⊢
 clear hv1
 obtain⟨B1,hB1⟩:∃ B1,[3]=B1:=⟨_,rfl⟩
 obtain⟨m1,hm1⟩:∃ m1,1=m1:=⟨_,rfl⟩
 have hq1:m1≤1:=by omega
 have HL1:Hid (B1.length=m1):=hid (by rw [← hB1,← hm1];rfl)
 clear hm1
 rw [hB1] at H1
 have HBq1:=hid hB1
 clear hB1
 have HGX:=hid (HX1.out.later H1.out.below)
 obtain⟨c0,c1,c2,c3,c4,c5,c6,c7,c8,c9⟩:=HGX.out.at
 rw [hk] at c0
 go_wp2_with fail
 refine (rn4 r.sg HOK.out.sg w1).mono ?_
 rintro e xs ⟨vv,rfl,hrow,hbs,_⟩
 obtain⟨ps,cs,hv,_,hsl,_⟩:=hrow.sl
 subst hv
 have HBS:=hid hbs.size
 have HFs:=hid (H1.out.later hbs)
 have HSs:=hid hsl
 clear hrow hbs hsl
 clear c0 c1 c2 c3 c4 c5 c6 c7 c8 c9
 have HGX:=hid (HX1.out.later HFs.out.below)
 obtain⟨c0,c1,c2,c3,c4,c5,c6,c7,c8,c9⟩:=HGX.out.at
 rw [hk] at c0
 go_wp2_with fail
 refine (rn4 r.tx HOK.out.tx xs).mono ?_
 rintro e xt ⟨vv,rfl,hrow,hbt,hot⟩
 obtain⟨pt,ct,hv,_,hsl,hqt⟩:=hrow.sl
 have HPT:Hid (∀ a,pt=some a→w1.heap.size≤a.block):=hid fun a ha=>by have h1:=hot _ (hqt a ha);have h2:=HBS.out;omega
 have HV1:Hid (∀ k,v1.ownBlock=some k→k<w1.heap.size):=hid H1.out.row.bound
 clear hot hqt
 subst hv
 have HFt:=hid (HFs.out.later hbt)
 have HSt:=hid hsl
 have HSs:=hid (HSs.out.later hbt)
 clear hrow hbt hsl
 clear c0 c1 c2 c3 c4 c5 c6 c7 c8 c9
 have HGX:=hid (HX1.out.later HFt.out.below)
 obtain⟨c0,c1,c2,c3,c4,c5,c6,c7,c8,c9⟩:=HGX.out.at
 rw [hk] at c0
 go_upto_region 16 with (at_builtin;refine z0j (k:=1) (by decide) Tryz.underlying33 z0x rfl (by omega) rfl _ _ rfl v1 m1 (vL B1) rfl (by rw [← HL1.out];exact HFt.out.row.own) pt 4 ct (vL (le r.tx.toNat 4)) rfl (by rw [z1h,Nat.mul_one];exact HSt.out.len) (z2c HSt.out) (z2e HSt.out) (z1t _) (by omega) ?_;intro pn cn w3 h1 h2 h3)
 have hf:=HFt.out.app (M:=(le r.tx.toNat 4)) HSt.out.lt h1 h2 h3
 clear h1 h2 h3
 generalize hB2:B1++(le r.tx.toNat 4)=B2 at hf
 have HBq2:=hid hB2
 have HL2:Hid (B2.length=m1+4):=hid (by rw [← hB2,List.length_append,HL1.out];first | rfl | (simp only [z0o];try omega))
 generalize Value.slice pn (m1+4) cn=v2 at *
 have H2:=hid hf
 clear hf hB2
 obtain⟨m2,hm2⟩:∃ z,m1+4=z:=⟨_,rfl⟩
 have hq2:m2≤m1+4:=by omega
 rw [hm2] at HL2
 clear hm2
 obtain⟨w2,hw2x⟩:∃ x,x=w3:=⟨_,rfl⟩
 subst hw2x
 clear c0 c1 c2 c3 c4 c5 c6 c7 c8 c9
 have HGX:=hid (HX1.out.later H2.out.below)
 obtain⟨c0,c1,c2,c3,c4,c5,c6,c7,c8,c9⟩:=HGX.out.at
 rw [hk] at c0
 have HFA:=hid (H2.out.later (show Below w2.heap.size w2 (w2.alloc (.cells #[.int .u8 r.ka,.int .u8 r.kb,.int .u8 r.kc] 5)) from (Below.refl _ _).alloc (Nat.le_refl _) _))
 go_upto_region 17 with (at_builtin;refine z0j (k:=1) (by decide) Tryz.underlying33 z0x rfl (by omega) rfl _ _ rfl v2 m2 (vL B2) rfl (by rw [← HL2.out];exact HFA.out.row.own) (some ⟨w2.heap.size,0,none⟩) 3 3 (vL [r.ka.toNat,r.kb.toNat,r.kc.toNat]) rfl (by rw [z1h];rfl) (fun h=>by cases h) (z3k w2 #[.int .u8 r.ka,.int .u8 r.kb,.int .u8 r.kc] [r.ka.toNat,r.kb.toNat,r.kc.toNat] (vL_one3 HOK.out.key.1 HOK.out.key.2.1 HOK.out.key.2.2)) (z1t _) (by omega) ?_;intro pn cn w3 h1 h2 h3)
 have hf:=HFA.out.app (M:=[r.ka.toNat,r.kb.toNat,r.kc.toNat]) (fun y hy=>by have e1:=HOK.out.key.1;have e2:=HOK.out.key.2.1;have e3:=HOK.out.key.2.2;change 0≤r.ka∧r.ka≤255 at e1;change 0≤r.kb∧r.kb≤255 at e2;change 0≤r.kc∧r.kc≤255 at e3;simp only [List.mem_cons,List.not_mem_nil,or_false] at hy;omega) h1 h2 h3
 clear h1 h2 h3
 generalize hB3:B2 ++ [r.ka.toNat,r.kb.toNat,r.kc.toNat]=B3 at hf
 have HBq3:=hid hB3
 have HL3:Hid (B3.length=m2+3):=hid (by rw [← hB3,List.length_append,HL2.out];first | rfl | (simp only [z0o];try omega))
 generalize Value.slice pn (m2+3) cn=v3 at *
 have H3:=hid hf
 clear hf hB3
 obtain⟨m3,hm3⟩:∃ z,m2+3=z:=⟨_,rfl⟩
 have hq3:m3≤m2+3:=by omega
 rw [hm3] at HL3
 clear hm3
 obtain⟨w3,hw3x⟩:∃ x,x=w3:=⟨_,rfl⟩
 subst hw3x
 clear c0 c1 c2 c3 c4 c5 c6 c7 c8 c9
 have HGX:=hid (HX1.out.later H3.out.below)
 obtain⟨c0,c1,c2,c3,c4,c5,c6,c7,c8,c9⟩:=HGX.out.at
 rw [hk] at c0
 go_wp2_with fail
 refine (q0v r.d w3 HOK.out.d).mono ?_
 rintro e y3 ⟨vv,rfl,hrow,hb4,_⟩
 obtain⟨pw,cw,hv,_,hsl,_⟩:=hrow.sl
 subst hv
 clear hrow
 have HFA:=hid (H3.out.later hb4)
 have HSL:=hid hsl
 clear hb4 hsl
 clear c0 c1 c2 c3 c4 c5 c6 c7 c8 c9
 go_wp2_with (first | (at_builtin;refine z0j (k:=1) (by decide) Tryz.underlying33 z0x rfl (by omega) rfl _ _ rfl v3 m3 (vL B3) rfl (by rw [← HL3.out];exact HFA.out.row.own) pw 8 cw (vL (le (Go.Proofs.YtfdgnniicjdjdaaGreatDoor.u64 r.d) 8)) rfl (by rw [z1h,Nat.mul_one];exact HSL.out.len) (z2c HSL.out) (z2e HSL.out) (z1t _) (by omega) ?_;intro pn cn w3 h1 h2 h3))
 have hf:=HFA.out.app (M:=(le (Go.Proofs.YtfdgnniicjdjdaaGreatDoor.u64 r.d) 8)) HSL.out.lt h1 h2 h3
 clear h1 h2 h3
 generalize hB4:B3++(le (Go.Proofs.YtfdgnniicjdjdaaGreatDoor.u64 r.d) 8)=B4 at hf
 have HBq4:=hid hB4
 have HL4:Hid (B4.length=m3+8):=hid (by rw [← hB4,List.length_append,HL3.out];first | rfl | (simp only [z0o];try omega))
 generalize Value.slice pn (m3+8) cn=v4 at *
 have H4:=hid hf
 clear hf hB4
 obtain⟨m4,hm4⟩:∃ z,m3+8=z:=⟨_,rfl⟩
 have hq4:m4≤m3+8:=by omega
 rw [hm4] at HL4
 clear hm4
 obtain⟨w4,hw4x⟩:∃ x,x=w3:=⟨_,rfl⟩
 subst hw4x
 go_ret
 have hst:le r.st.toNat 1=[r.st.toNat]:=z3m (by have e:=HOK.out.st;change 0≤r.st∧r.st≤255 at e;omega)
 have hoo:le r.o.toNat 1=[r.o.toNat]:=z3m (by have e:=HOK.out.o;change 0≤r.o∧r.o≤255 at e;omega)
 have hfin:z0n (r.x L T M)=B4:=by
  rw [← HBq4.out,← HBq3.out,← HBq2.out,← HBq1.out]
  unfold z0n
  rw [show (r.x L T M).k=3 from hk,show le (3:Int).toNat 1=[3] from rfl]
  simp [kS,kT,kB,kA,kO,kP,Rv.x,keyB,List.append_assoc,hst,hoo]
 rw [hfin]
 exact⟨_,rfl,H4.out.row,HB1.out.trans (H4.out.below.mono HB1.out.size),fun k hk=>Nat.le_trans HB1.out.size (H4.out.own k hk)⟩
theorem rrec_bytes4 (r:Rv) (L:List Ln) (T:List Tk) (M:List Ln) (W:World) (hP:RvM W r L T M) (hok:Rxok (r.x L T M)) (h1:r.ln≤20∧r.tn≤30∧r.wn≤20) (hk:r.k=4):Calls Tryz.prog 48 #[.agg (rcs r)] W (z2z W (z0n (r.x L T M)).length (z0n (r.x L T M))):=by
 obtain⟨W1,hW1,hb1⟩:∃ W1,W.alloc (.cells (rcs r) 51)=W1∧Below W.heap.size W W1:=⟨_,rfl,(Below.refl _ _).alloc (Nat.le_refl _) _⟩
 obtain⟨B,hB⟩:∃ B,W.heap.size=B:=⟨_,rfl⟩
 have hrb:=RB.new W r
 rw [hW1,hB] at hrb
 have h0:FB W1 (W1.alloc (.cells #[.int .u8 4] 5)) (.slice (some ⟨W1.heap.size,0,none⟩) 1 1) [4]:=FB.lit (m:=1) (Below.refl _ _) rfl rfl (by omega) (fun x hx=>by obtain rfl:=List.mem_singleton.1 hx;omega)
 obtain⟨w1,hw1⟩:∃ w1,W1.alloc (.cells #[.int .u8 4] 5)=w1:=⟨_,rfl⟩
 rw [hw1] at h0
 have Hw1:=hid hw1
 have H1:=hid h0
 have HX1:=hid hrb
 have HW1:=hid hW1
 have HB1:=hid hb1
 have HRE:=hid hB
 have HOK:=hid hok
 have HP:=hid hP
 have HH:=hid h1
 have u1:IntKind.u64.wrap r.sg=r.sg:=z0q hok.sg
 have u2:IntKind.u64.wrap r.tx=r.tx:=z0q hok.tx
 have HGX:=hid (HX1.out)
 obtain⟨c0,c1,c2,c3,c4,c5,c6,c7,c8,c9⟩:=HGX.out.at
 rw [hk] at c0
 clear hW1 hB hb1 hrb hP h0 hw1 h1 hok
 go_enter Tryz.func48,Tryz.ntmps48
 go_upto_region 1 with (fail)
 rw [HW1.out,HRE.out]
 go_upto_region 2 with (fail)
 rw [Hw1.out]
 clear c0 c1 c2 c3 c4 c5 c6 c7 c8 c9
 obtain⟨v1,hv1⟩:∃ v1,Value.slice (some ⟨W1.heap.size,0,none⟩) 1 1=v1:=⟨_,rfl⟩
 rw [hv1] at H1 ⊢
 clear hv1
 obtain⟨B1,hB1⟩:∃ B1,[4]=B1:=⟨_,rfl⟩
 obtain⟨m1,hm1⟩:∃ m1,1=m1:=⟨_,rfl⟩
 have hq1:m1≤1:=by omega
 have HL1:Hid (B1.length=m1):=hid (by rw [← hB1,← hm1];rfl)
 clear hm1
 rw [hB1] at H1
 have HBq1:=hid hB1
 clear hB1
 have HGX:=hid (HX1.out.later H1.out.below)
 obtain⟨c0,c1,c2,c3,c4,c5,c6,c7,c8,c9⟩:=HGX.out.at
 rw [hk] at c0
 go_wp2_with fail
 refine (rn4 r.sg HOK.out.sg w1).mono ?_
 rintro e xs ⟨vv,rfl,hrow,hbs,_⟩
 obtain⟨ps,cs,hv,_,hsl,_⟩:=hrow.sl
 subst hv
 have HBS:=hid hbs.size
 have HFs:=hid (H1.out.later hbs)
 have HSs:=hid hsl
 clear hrow hbs hsl
 clear c0 c1 c2 c3 c4 c5 c6 c7 c8 c9
 have HGX:=hid (HX1.out.later HFs.out.below)
 obtain⟨c0,c1,c2,c3,c4,c5,c6,c7,c8,c9⟩:=HGX.out.at
 rw [hk] at c0
 go_wp2_with fail
 refine (rn4 r.tx HOK.out.tx xs).mono ?_
 rintro e xt ⟨vv,rfl,hrow,hbt,hot⟩
 obtain⟨pt,ct,hv,_,hsl,hqt⟩:=hrow.sl
 have HPT:Hid (∀ a,pt=some a→w1.heap.size≤a.block):=hid fun a ha=>by have h1:=hot _ (hqt a ha);have h2:=HBS.out;omega
 have HV1:Hid (∀ k,v1.ownBlock=some k→k<w1.heap.size):=hid H1.out.row.bound
 clear hot hqt
 subst hv
 have HFt:=hid (HFs.out.later hbt)
 have HSt:=hid hsl
 have HSs:=hid (HSs.out.later hbt)
 clear hrow hbt hsl
 clear c0 c1 c2 c3 c4 c5 c6 c7 c8 c9
 have HGX:=hid (HX1.out.later HFt.out.below)
 obtain⟨c0,c1,c2,c3,c4,c5,c6,c7,c8,c9⟩:=HGX.out.at
 rw [hk] at c0
 go_wp2_with (first | (at_builtin;refine z0j (k:=1) (by decide) Tryz.underlying33 z0x rfl (by omega) rfl _ _ rfl v1 m1 (vL B1) rfl (by rw [← HL1.out];exact HFt.out.row.own) pt 4 ct (vL (le r.tx.toNat 4)) rfl (by rw [z1h,Nat.mul_one];exact HSt.out.len) (z2c HSt.out) (z2e HSt.out) (z1t _) (by omega) ?_;intro pn cn w3 h1 h2 h3))
 have hf:=HFt.out.app (M:=(le r.tx.toNat 4)) HSt.out.lt h1 h2 h3
 clear h1 h2 h3
 generalize hB2:B1++(le r.tx.toNat 4)=B2 at hf
 have HBq2:=hid hB2
 have HL2:Hid (B2.length=m1+4):=hid (by rw [← hB2,List.length_append,HL1.out];first | rfl | (simp only [z0o];try omega))
 generalize Value.slice pn (m1+4) cn=v2 at *
 have H2:=hid hf
 clear hf hB2
 obtain⟨m2,hm2⟩:∃ z,m1+4=z:=⟨_,rfl⟩
 have hq2:m2≤m1+4:=by omega
 rw [hm2] at HL2
 clear hm2
 obtain⟨w2,hw2x⟩:∃ x,x=w3:=⟨_,rfl⟩
 subst hw2x
 clear c0 c1 c2 c3 c4 c5 c6 c7 c8 c9
 go_ret
 have hst:le r.st.toNat 1=[r.st.toNat]:=z3m (by have e:=HOK.out.st;change 0≤r.st∧r.st≤255 at e;omega)
 have hoo:le r.o.toNat 1=[r.o.toNat]:=z3m (by have e:=HOK.out.o;change 0≤r.o∧r.o≤255 at e;omega)
 have hfin:z0n (r.x L T M)=B2:=by
  rw [← HBq2.out,← HBq1.out]
  unfold z0n
  rw [show (r.x L T M).k=4 from hk,show le (4:Int).toNat 1=[4] from rfl]
  simp [kS,kT,kB,kA,kO,kP,Rv.x,keyB,List.append_assoc,hst,hoo]
 rw [hfin]
 exact⟨_,rfl,H2.out.row,HB1.out.trans (H2.out.below.mono HB1.out.size),fun k hk=>Nat.le_trans HB1.out.size (H2.out.own k hk)⟩
theorem rrec_bytes5 (r:Rv) (L:List Ln) (T:List Tk) (M:List Ln) (W:World) (hP:RvM W r L T M) (hok:Rxok (r.x L T M)) (h1:r.ln≤20∧r.tn≤30∧r.wn≤20) (hk:r.k=5):Calls Tryz.prog 48 #[.agg (rcs r)] W (z2z W (z0n (r.x L T M)).length (z0n (r.x L T M))):=by
 obtain⟨W1,hW1,hb1⟩:∃ W1,W.alloc (.cells (rcs r) 51)=W1∧Below W.heap.size W W1:=⟨_,rfl,(Below.refl _ _).alloc (Nat.le_refl _) _⟩
 obtain⟨B,hB⟩:∃ B,W.heap.size=B:=⟨_,rfl⟩
 have hrb:=RB.new W r
 rw [hW1,hB] at hrb
 have h0:FB W1 (W1.alloc (.cells #[.int .u8 5] 5)) (.slice (some ⟨W1.heap.size,0,none⟩) 1 1) [5]:=FB.lit (m:=1) (Below.refl _ _) rfl rfl (by omega) (fun x hx=>by obtain rfl:=List.mem_singleton.1 hx;omega)
 obtain⟨w1,hw1⟩:∃ w1,W1.alloc (.cells #[.int .u8 5] 5)=w1:=⟨_,rfl⟩
 rw [hw1] at h0
 have Hw1:=hid hw1
 have H1:=hid h0
 have HX1:=hid hrb
 have HW1:=hid hW1
 have HB1:=hid hb1
 have HRE:=hid hB
 have HOK:=hid hok
 have HP:=hid hP
 have HH:=hid h1
 have u1:IntKind.u64.wrap r.sg=r.sg:=z0q hok.sg
 have u2:IntKind.u64.wrap r.tx=r.tx:=z0q hok.tx
 have HGX:=hid (HX1.out)
 obtain⟨c0,c1,c2,c3,c4,c5,c6,c7,c8,c9⟩:=HGX.out.at
 rw [hk] at c0
 clear hW1 hB hb1 hrb hP h0 hw1 h1 hok
 go_enter Tryz.func48,Tryz.ntmps48
 go_upto_region 1 with (fail)
 rw [HW1.out,HRE.out]
 go_upto_region 2 with (fail)
 rw [Hw1.out]
 clear c0 c1 c2 c3 c4 c5 c6 c7 c8 c9
 obtain⟨v1,hv1⟩:∃ v1,Value.slice (some ⟨W1.heap.size,0,none⟩) 1 1=v1:=⟨_,rfl⟩
 rw [hv1] at H1 ⊢
 clear hv1
 obtain⟨B1,hB1⟩:∃ B1,[5]=B1:=⟨_,rfl⟩
 obtain⟨m1,hm1⟩:∃ m1,1=m1:=⟨_,rfl⟩
 have hq1:m1≤1:=by omega
 have HL1:Hid (B1.length=m1):=hid (by rw [← hB1,← hm1];rfl)
 clear hm1
 rw [hB1] at H1
 have HBq1:=hid hB1
 clear hB1
 have HGX:=hid (HX1.out.later H1.out.below)
 obtain⟨c0,c1,c2,c3,c4,c5,c6,c7,c8,c9⟩:=HGX.out.at
 rw [hk] at c0
 go_wp2_with fail
 refine (rn4 r.sg HOK.out.sg w1).mono ?_
 rintro e xs ⟨vv,rfl,hrow,hbs,_⟩
 obtain⟨ps,cs,hv,_,hsl,_⟩:=hrow.sl
 subst hv
 have HBS:=hid hbs.size
 have HFs:=hid (H1.out.later hbs)
 have HSs:=hid hsl
 clear hrow hbs hsl
 clear c0 c1 c2 c3 c4 c5 c6 c7 c8 c9
 have HGX:=hid (HX1.out.later HFs.out.below)
 obtain⟨c0,c1,c2,c3,c4,c5,c6,c7,c8,c9⟩:=HGX.out.at
 rw [hk] at c0
 go_wp2_with fail
 refine (rn4 r.tx HOK.out.tx xs).mono ?_
 rintro e xt ⟨vv,rfl,hrow,hbt,hot⟩
 obtain⟨pt,ct,hv,_,hsl,hqt⟩:=hrow.sl
 have HPT:Hid (∀ a,pt=some a→w1.heap.size≤a.block):=hid fun a ha=>by have h1:=hot _ (hqt a ha);have h2:=HBS.out;omega
 have HV1:Hid (∀ k,v1.ownBlock=some k→k<w1.heap.size):=hid H1.out.row.bound
 clear hot hqt
 subst hv
 have HFt:=hid (HFs.out.later hbt)
 have HSt:=hid hsl
 have HSs:=hid (HSs.out.later hbt)
 clear hrow hbt hsl
 clear c0 c1 c2 c3 c4 c5 c6 c7 c8 c9
 have HGX:=hid (HX1.out.later HFt.out.below)
 obtain⟨c0,c1,c2,c3,c4,c5,c6,c7,c8,c9⟩:=HGX.out.at
 rw [hk] at c0
 go_wp2_with (first | (at_builtin;refine z0j (k:=1) (by decide) Tryz.underlying33 z0x rfl (by omega) rfl _ _ rfl v1 m1 (vL B1) rfl (by rw [← HL1.out];exact HFt.out.row.own) pt 4 ct (vL (le r.tx.toNat 4)) rfl (by rw [z1h,Nat.mul_one];exact HSt.out.len) (z2c HSt.out) (z2e HSt.out) (z1t _) (by omega) ?_;intro pn cn w3 h1 h2 h3))
 have hf:=HFt.out.app (M:=(le r.tx.toNat 4)) HSt.out.lt h1 h2 h3
 clear h1 h2 h3
 generalize hB2:B1++(le r.tx.toNat 4)=B2 at hf
 have HBq2:=hid hB2
 have HL2:Hid (B2.length=m1+4):=hid (by rw [← hB2,List.length_append,HL1.out];first | rfl | (simp only [z0o];try omega))
 generalize Value.slice pn (m1+4) cn=v2 at *
 have H2:=hid hf
 clear hf hB2
 obtain⟨m2,hm2⟩:∃ z,m1+4=z:=⟨_,rfl⟩
 have hq2:m2≤m1+4:=by omega
 rw [hm2] at HL2
 clear hm2
 obtain⟨w2,hw2x⟩:∃ x,x=w3:=⟨_,rfl⟩
 subst hw2x
 clear c0 c1 c2 c3 c4 c5 c6 c7 c8 c9
 go_ret
 have hst:le r.st.toNat 1=[r.st.toNat]:=z3m (by have e:=HOK.out.st;change 0≤r.st∧r.st≤255 at e;omega)
 have hoo:le r.o.toNat 1=[r.o.toNat]:=z3m (by have e:=HOK.out.o;change 0≤r.o∧r.o≤255 at e;omega)
 have hfin:z0n (r.x L T M)=B2:=by
  rw [← HBq2.out,← HBq1.out]
  unfold z0n
  rw [show (r.x L T M).k=5 from hk,show le (5:Int).toNat 1=[5] from rfl]
  simp [kS,kT,kB,kA,kO,kP,Rv.x,keyB,List.append_assoc,hst,hoo]
 rw [hfin]
 exact⟨_,rfl,H2.out.row,HB1.out.trans (H2.out.below.mono HB1.out.size),fun k hk=>Nat.le_trans HB1.out.size (H2.out.own k hk)⟩
theorem rrec_bytes6 (r:Rv) (L:List Ln) (T:List Tk) (M:List Ln) (W:World) (hP:RvM W r L T M) (hok:Rxok (r.x L T M)) (h1:r.ln≤20∧r.tn≤30∧r.wn≤20) (hk:r.k=6):Calls Tryz.prog 48 #[.agg (rcs r)] W (z2z W (z0n (r.x L T M)).length (z0n (r.x L T M))):=by
 obtain⟨W1,hW1,hb1⟩:∃ W1,W.alloc (.cells (rcs r) 51)=W1∧Below W.heap.size W W1:=⟨_,rfl,(Below.refl _ _).alloc (Nat.le_refl _) _⟩
 obtain⟨B,hB⟩:∃ B,W.heap.size=B:=⟨_,rfl⟩
 have hrb:=RB.new W r
 rw [hW1,hB] at hrb
 have h0:FB W1 (W1.alloc (.cells #[.int .u8 6] 5)) (.slice (some ⟨W1.heap.size,0,none⟩) 1 1) [6]:=FB.lit (m:=1) (Below.refl _ _) rfl rfl (by omega) (fun x hx=>by obtain rfl:=List.mem_singleton.1 hx;omega)
 obtain⟨w1,hw1⟩:∃ w1,W1.alloc (.cells #[.int .u8 6] 5)=w1:=⟨_,rfl⟩
 rw [hw1] at h0
 have Hw1:=hid hw1
 have H1:=hid h0
 have HX1:=hid hrb
 have HW1:=hid hW1
 have HB1:=hid hb1
 have HRE:=hid hB
 have HOK:=hid hok
 have HP:=hid hP
 have HH:=hid h1
 have u1:IntKind.u64.wrap r.sg=r.sg:=z0q hok.sg
 have u2:IntKind.u64.wrap r.tx=r.tx:=z0q hok.tx
 have HGX:=hid (HX1.out)
 obtain⟨c0,c1,c2,c3,c4,c5,c6,c7,c8,c9⟩:=HGX.out.at
 rw [hk] at c0
 clear hW1 hB hb1 hrb hP h0 hw1 h1 hok
 go_enter Tryz.func48,Tryz.ntmps48
 go_upto_region 1 with (fail)
 rw [HW1.out,HRE.out]
 go_upto_region 2 with (fail)
 rw [Hw1.out]
 clear c0 c1 c2 c3 c4 c5 c6 c7 c8 c9
 obtain⟨v1,hv1⟩:∃ v1,Value.slice (some ⟨W1.heap.size,0,none⟩) 1 1=v1:=⟨_,rfl⟩
 rw [hv1] at H1 ⊢
 clear hv1
 obtain⟨B1,hB1⟩:∃ B1,[6]=B1:=⟨_,rfl⟩
 obtain⟨m1,hm1⟩:∃ m1,1=m1:=⟨_,rfl⟩
 have hq1:m1≤1:=by omega
 have HL1:Hid (B1.length=m1):=hid (by rw [← hB1,← hm1];rfl)
 clear hm1
 rw [hB1] at H1
 have HBq1:=hid hB1
 clear hB1
 have HGX:=hid (HX1.out.later H1.out.below)
 obtain⟨c0,c1,c2,c3,c4,c5,c6,c7,c8,c9⟩:=HGX.out.at
 rw [hk] at c0
 go_wp2_with fail
 refine (rn4 r.sg HOK.out.sg w1).mono ?_
 rintro e xs ⟨vv,rfl,hrow,hbs,_⟩
 obtain⟨ps,cs,hv,_,hsl,_⟩:=hrow.sl
 subst hv
 have HBS:=hid hbs.size
 have HFs:=hid (H1.out.later hbs)
 have HSs:=hid hsl
 clear hrow hbs hsl
 clear c0 c1 c2 c3 c4 c5 c6 c7 c8 c9
 have HGX:=hid (HX1.out.later HFs.out.below)
 obtain⟨c0,c1,c2,c3,c4,c5,c6,c7,c8,c9⟩:=HGX.out.at
 rw [hk] at c0
 go_wp2_with fail
 refine (rn4 r.tx HOK.out.tx xs).mono ?_
 rintro e xt ⟨vv,rfl,hrow,hbt,hot⟩
 obtain⟨pt,ct,hv,_,hsl,hqt⟩:=hrow.sl
 have HPT:Hid (∀ a,pt=some a→w1.heap.size≤a.block):=hid fun a ha=>by have h1:=hot _ (hqt a ha);have h2:=HBS.out;omega
 have HV1:Hid (∀ k,v1.ownBlock=some k→k<w1.heap.size):=hid H1.out.row.bound
 clear hot hqt
 subst hv
 have HFt:=hid (HFs.out.later hbt)
 have HSt:=hid hsl
 have HSs:=hid (HSs.out.later hbt)
 clear hrow hbt hsl
 clear c0 c1 c2 c3 c4 c5 c6 c7 c8 c9
 have HGX:=hid (HX1.out.later HFt.out.below)
 obtain⟨c0,c1,c2,c3,c4,c5,c6,c7,c8,c9⟩:=HGX.out.at
 rw [hk] at c0
 go_upto_region 16 with (at_builtin;refine z0j (k:=1) (by decide) Tryz.underlying33 z0x rfl (by omega) rfl _ _ rfl v1 m1 (vL B1) rfl (by rw [← HL1.out];exact HFt.out.row.own) pt 4 ct (vL (le r.tx.toNat 4)) rfl (by rw [z1h,Nat.mul_one];exact HSt.out.len) (z2c HSt.out) (z2e HSt.out) (z1t _) (by omega) ?_;intro pn cn w3 h1 h2 h3)
 have hf:=HFt.out.app (M:=(le r.tx.toNat 4)) HSt.out.lt h1 h2 h3
 clear h1 h2 h3
 generalize hB2:B1++(le r.tx.toNat 4)=B2 at hf
 have HBq2:=hid hB2
 have HL2:Hid (B2.length=m1+4):=hid (by rw [← hB2,List.length_append,HL1.out];first | rfl | (simp only [z0o];try omega))
 generalize Value.slice pn (m1+4) cn=v2 at *
 have H2:=hid hf
 clear hf hB2
 obtain⟨m2,hm2⟩:∃ z,m1+4=z:=⟨_,rfl⟩
 have hq2:m2≤m1+4:=by omega
 rw [hm2] at HL2
 clear hm2
 obtain⟨w2,hw2x⟩:∃ x,x=w3:=⟨_,rfl⟩
 subst hw2x
 clear c0 c1 c2 c3 c4 c5 c6 c7 c8 c9
 have HGX:=hid (HX1.out.later H2.out.below)
 obtain⟨c0,c1,c2,c3,c4,c5,c6,c7,c8,c9⟩:=HGX.out.at
 rw [hk] at c0
 have HFA:=hid (H2.out.later (show Below w2.heap.size w2 (w2.alloc (.cells #[.int .u8 r.ka,.int .u8 r.kb,.int .u8 r.kc] 5)) from (Below.refl _ _).alloc (Nat.le_refl _) _))
 go_upto_region 17 with (at_builtin;refine z0j (k:=1) (by decide) Tryz.underlying33 z0x rfl (by omega) rfl _ _ rfl v2 m2 (vL B2) rfl (by rw [← HL2.out];exact HFA.out.row.own) (some ⟨w2.heap.size,0,none⟩) 3 3 (vL [r.ka.toNat,r.kb.toNat,r.kc.toNat]) rfl (by rw [z1h];rfl) (fun h=>by cases h) (z3k w2 #[.int .u8 r.ka,.int .u8 r.kb,.int .u8 r.kc] [r.ka.toNat,r.kb.toNat,r.kc.toNat] (vL_one3 HOK.out.key.1 HOK.out.key.2.1 HOK.out.key.2.2)) (z1t _) (by omega) ?_;intro pn cn w3 h1 h2 h3)
 have hf:=HFA.out.app (M:=[r.ka.toNat,r.kb.toNat,r.kc.toNat]) (fun y hy=>by have e1:=HOK.out.key.1;have e2:=HOK.out.key.2.1;have e3:=HOK.out.key.2.2;change 0≤r.ka∧r.ka≤255 at e1;change 0≤r.kb∧r.kb≤255 at e2;change 0≤r.kc∧r.kc≤255 at e3;simp only [List.mem_cons,List.not_mem_nil,or_false] at hy;omega) h1 h2 h3
 clear h1 h2 h3
 generalize hB3:B2 ++ [r.ka.toNat,r.kb.toNat,r.kc.toNat]=B3 at hf
 have HBq3:=hid hB3
 have HL3:Hid (B3.length=m2+3):=hid (by rw [← hB3,List.length_append,HL2.out];first | rfl | (simp only [z0o];try omega))
 generalize Value.slice pn (m2+3) cn=v3 at *
 have H3:=hid hf
 clear hf hB3
 obtain⟨m3,hm3⟩:∃ z,m2+3=z:=⟨_,rfl⟩
 have hq3:m3≤m2+3:=by omega
 rw [hm3] at HL3
 clear hm3
 obtain⟨w3,hw3x⟩:∃ x,x=w3:=⟨_,rfl⟩
 subst hw3x
 clear c0 c1 c2 c3 c4 c5 c6 c7 c8 c9
 have HGX:=hid (HX1.out.later H3.out.below)
 obtain⟨c0,c1,c2,c3,c4,c5,c6,c7,c8,c9⟩:=HGX.out.at
 rw [hk] at c0
 go_wp2_with fail
 refine (q0v r.d w3 HOK.out.d).mono ?_
 rintro e y3 ⟨vv,rfl,hrow,hb4,_⟩
 obtain⟨pw,cw,hv,_,hsl,_⟩:=hrow.sl
 subst hv
 clear hrow
 have HFA:=hid (H3.out.later hb4)
 have HSL:=hid hsl
 clear hb4 hsl
 clear c0 c1 c2 c3 c4 c5 c6 c7 c8 c9
 go_wp2_with (first | (at_builtin;refine z0j (k:=1) (by decide) Tryz.underlying33 z0x rfl (by omega) rfl _ _ rfl v3 m3 (vL B3) rfl (by rw [← HL3.out];exact HFA.out.row.own) pw 8 cw (vL (le (Go.Proofs.YtfdgnniicjdjdaaGreatDoor.u64 r.d) 8)) rfl (by rw [z1h,Nat.mul_one];exact HSL.out.len) (z2c HSL.out) (z2e HSL.out) (z1t _) (by omega) ?_;intro pn cn w3 h1 h2 h3))
 have hf:=HFA.out.app (M:=(le (Go.Proofs.YtfdgnniicjdjdaaGreatDoor.u64 r.d) 8)) HSL.out.lt h1 h2 h3
 clear h1 h2 h3
 generalize hB4:B3++(le (Go.Proofs.YtfdgnniicjdjdaaGreatDoor.u64 r.d) 8)=B4 at hf
 have HBq4:=hid hB4
 have HL4:Hid (B4.length=m3+8):=hid (by rw [← hB4,List.length_append,HL3.out];first | rfl | (simp only [z0o];try omega))
 generalize Value.slice pn (m3+8) cn=v4 at *
 have H4:=hid hf
 clear hf hB4
 obtain⟨m4,hm4⟩:∃ z,m3+8=z:=⟨_,rfl⟩
 have hq4:m4≤m3+8:=by omega
 rw [hm4] at HL4
 clear hm4
 obtain⟨w4,hw4x⟩:∃ x,x=w3:=⟨_,rfl⟩
 subst hw4x
 go_ret
 have hst:le r.st.toNat 1=[r.st.toNat]:=z3m (by have e:=HOK.out.st;change 0≤r.st∧r.st≤255 at e;omega)
 have hoo:le r.o.toNat 1=[r.o.toNat]:=z3m (by have e:=HOK.out.o;change 0≤r.o∧r.o≤255 at e;omega)
 have hfin:z0n (r.x L T M)=B4:=by
  rw [← HBq4.out,← HBq3.out,← HBq2.out,← HBq1.out]
  unfold z0n
  rw [show (r.x L T M).k=6 from hk,show le (6:Int).toNat 1=[6] from rfl]
  simp [kS,kT,kB,kA,kO,kP,Rv.x,keyB,List.append_assoc,hst,hoo]
 rw [hfin]
 exact⟨_,rfl,H4.out.row,HB1.out.trans (H4.out.below.mono HB1.out.size),fun k hk=>Nat.le_trans HB1.out.size (H4.out.own k hk)⟩
theorem rrec_bytes7 (r:Rv) (L:List Ln) (T:List Tk) (M:List Ln) (W:World) (hP:RvM W r L T M) (hok:Rxok (r.x L T M)) (h1:r.ln≤20∧r.tn≤30∧r.wn≤20) (hk:r.k=7):Calls Tryz.prog 48 #[.agg (rcs r)] W (z2z W (z0n (r.x L T M)).length (z0n (r.x L T M))):=by
 obtain⟨W1,hW1,hb1⟩:∃ W1,W.alloc (.cells (rcs r) 51)=W1∧Below W.heap.size W W1:=⟨_,rfl,(Below.refl _ _).alloc (Nat.le_refl _) _⟩
 obtain⟨B,hB⟩:∃ B,W.heap.size=B:=⟨_,rfl⟩
 have hrb:=RB.new W r
 rw [hW1,hB] at hrb
 have h0:FB W1 (W1.alloc (.cells #[.int .u8 7] 5)) (.slice (some ⟨W1.heap.size,0,none⟩) 1 1) [7]:=FB.lit (m:=1) (Below.refl _ _) rfl rfl (by omega) (fun x hx=>by obtain rfl:=List.mem_singleton.1 hx;omega)
 obtain⟨w1,hw1⟩:∃ w1,W1.alloc (.cells #[.int .u8 7] 5)=w1:=⟨_,rfl⟩
 rw [hw1] at h0
 have Hw1:=hid hw1
 have H1:=hid h0
 have HX1:=hid hrb
 have HW1:=hid hW1
 have HB1:=hid hb1
 have HRE:=hid hB
 have HOK:=hid hok
 have HP:=hid hP
 have HH:=hid h1
 have u1:IntKind.u64.wrap r.sg=r.sg:=z0q hok.sg
 have u2:IntKind.u64.wrap r.tx=r.tx:=z0q hok.tx
 have HGX:=hid (HX1.out)
 obtain⟨c0,c1,c2,c3,c4,c5,c6,c7,c8,c9⟩:=HGX.out.at
 rw [hk] at c0
 clear hW1 hB hb1 hrb hP h0 hw1 h1 hok
 go_enter Tryz.func48,Tryz.ntmps48
 go_upto_region 1 with (fail)
 rw [HW1.out,HRE.out]
 go_upto_region 2 with (fail)
 rw [Hw1.out]
 clear c0 c1 c2 c3 c4 c5 c6 c7 c8 c9
 obtain⟨v1,hv1⟩:∃ v1,Value.slice (some ⟨W1.heap.size,0,none⟩) 1 1=v1:=⟨_,rfl⟩
 rw [hv1] at H1 ⊢
 clear hv1
 obtain⟨B1,hB1⟩:∃ B1,[7]=B1:=⟨_,rfl⟩
 obtain⟨m1,hm1⟩:∃ m1,1=m1:=⟨_,rfl⟩
 have hq1:m1≤1:=by omega
 have HL1:Hid (B1.length=m1):=hid (by rw [← hB1,← hm1];rfl)
 clear hm1
 rw [hB1] at H1
 have HBq1:=hid hB1
 clear hB1
 have HGX:=hid (HX1.out.later H1.out.below)
 obtain⟨c0,c1,c2,c3,c4,c5,c6,c7,c8,c9⟩:=HGX.out.at
 rw [hk] at c0
 go_wp2_with fail
 refine (rn4 r.sg HOK.out.sg w1).mono ?_
 rintro e xs ⟨vv,rfl,hrow,hbs,_⟩
 obtain⟨ps,cs,hv,_,hsl,_⟩:=hrow.sl
 subst hv
 have HBS:=hid hbs.size
 have HFs:=hid (H1.out.later hbs)
 have HSs:=hid hsl
 clear hrow hbs hsl
 clear c0 c1 c2 c3 c4 c5 c6 c7 c8 c9
 have HGX:=hid (HX1.out.later HFs.out.below)
 obtain⟨c0,c1,c2,c3,c4,c5,c6,c7,c8,c9⟩:=HGX.out.at
 rw [hk] at c0
 go_wp2_with fail
 refine (rn4 r.tx HOK.out.tx xs).mono ?_
 rintro e xt ⟨vv,rfl,hrow,hbt,hot⟩
 obtain⟨pt,ct,hv,_,hsl,hqt⟩:=hrow.sl
 have HPT:Hid (∀ a,pt=some a→w1.heap.size≤a.block):=hid fun a ha=>by have h1:=hot _ (hqt a ha);have h2:=HBS.out;omega
 have HV1:Hid (∀ k,v1.ownBlock=some k→k<w1.heap.size):=hid H1.out.row.bound
 clear hot hqt
 subst hv
 have HFt:=hid (HFs.out.later hbt)
 have HSt:=hid hsl
 have HSs:=hid (HSs.out.later hbt)
 clear hrow hbt hsl
 clear c0 c1 c2 c3 c4 c5 c6 c7 c8 c9
 have HGX:=hid (HX1.out.later HFt.out.below)
 obtain⟨c0,c1,c2,c3,c4,c5,c6,c7,c8,c9⟩:=HGX.out.at
 rw [hk] at c0
 go_wp2_with (first | (at_builtin;refine z0j (k:=1) (by decide) Tryz.underlying33 z0x rfl (by omega) rfl _ _ rfl v1 m1 (vL B1) rfl (by rw [← HL1.out];exact HFt.out.row.own) pt 4 ct (vL (le r.tx.toNat 4)) rfl (by rw [z1h,Nat.mul_one];exact HSt.out.len) (z2c HSt.out) (z2e HSt.out) (z1t _) (by omega) ?_;intro pn cn w3 h1 h2 h3))
 have hf:=HFt.out.app (M:=(le r.tx.toNat 4)) HSt.out.lt h1 h2 h3
 clear h1 h2 h3
 generalize hB2:B1++(le r.tx.toNat 4)=B2 at hf
 have HBq2:=hid hB2
 have HL2:Hid (B2.length=m1+4):=hid (by rw [← hB2,List.length_append,HL1.out];first | rfl | (simp only [z0o];try omega))
 generalize Value.slice pn (m1+4) cn=v2 at *
 have H2:=hid hf
 clear hf hB2
 obtain⟨m2,hm2⟩:∃ z,m1+4=z:=⟨_,rfl⟩
 have hq2:m2≤m1+4:=by omega
 rw [hm2] at HL2
 clear hm2
 obtain⟨w2,hw2x⟩:∃ x,x=w3:=⟨_,rfl⟩
 subst hw2x
 clear c0 c1 c2 c3 c4 c5 c6 c7 c8 c9
 go_ret
 have hst:le r.st.toNat 1=[r.st.toNat]:=z3m (by have e:=HOK.out.st;change 0≤r.st∧r.st≤255 at e;omega)
 have hoo:le r.o.toNat 1=[r.o.toNat]:=z3m (by have e:=HOK.out.o;change 0≤r.o∧r.o≤255 at e;omega)
 have hfin:z0n (r.x L T M)=B2:=by
  rw [← HBq2.out,← HBq1.out]
  unfold z0n
  rw [show (r.x L T M).k=7 from hk,show le (7:Int).toNat 1=[7] from rfl]
  simp [kS,kT,kB,kA,kO,kP,Rv.x,keyB,List.append_assoc,hst,hoo]
 rw [hfin]
 exact⟨_,rfl,H2.out.row,HB1.out.trans (H2.out.below.mono HB1.out.size),fun k hk=>Nat.le_trans HB1.out.size (H2.out.own k hk)⟩
theorem rrec_bytes8 (r:Rv) (L:List Ln) (T:List Tk) (M:List Ln) (W:World) (hP:RvM W r L T M) (hok:Rxok (r.x L T M)) (h1:r.ln≤20∧r.tn≤30∧r.wn≤20) (hk:r.k=8):Calls Tryz.prog 48 #[.agg (rcs r)] W (z2z W (z0n (r.x L T M)).length (z0n (r.x L T M))):=by
 obtain⟨W1,hW1,hb1⟩:∃ W1,W.alloc (.cells (rcs r) 51)=W1∧Below W.heap.size W W1:=⟨_,rfl,(Below.refl _ _).alloc (Nat.le_refl _) _⟩
 obtain⟨B,hB⟩:∃ B,W.heap.size=B:=⟨_,rfl⟩
 have hrb:=RB.new W r
 rw [hW1,hB] at hrb
 have h0:FB W1 (W1.alloc (.cells #[.int .u8 8] 5)) (.slice (some ⟨W1.heap.size,0,none⟩) 1 1) [8]:=FB.lit (m:=1) (Below.refl _ _) rfl rfl (by omega) (fun x hx=>by obtain rfl:=List.mem_singleton.1 hx;omega)
 obtain⟨w1,hw1⟩:∃ w1,W1.alloc (.cells #[.int .u8 8] 5)=w1:=⟨_,rfl⟩
 rw [hw1] at h0
 have Hw1:=hid hw1
 have H1:=hid h0
 have HX1:=hid hrb
 have HW1:=hid hW1
 have HB1:=hid hb1
 have HRE:=hid hB
 have HOK:=hid hok
 have HP:=hid hP
 have HH:=hid h1
 have u1:IntKind.u64.wrap r.sg=r.sg:=z0q hok.sg
 have u2:IntKind.u64.wrap r.tx=r.tx:=z0q hok.tx
 have HGX:=hid (HX1.out)
 obtain⟨c0,c1,c2,c3,c4,c5,c6,c7,c8,c9⟩:=HGX.out.at
 rw [hk] at c0
 clear hW1 hB hb1 hrb hP h0 hw1 h1 hok
 go_enter Tryz.func48,Tryz.ntmps48
 go_upto_region 1 with (fail)
 rw [HW1.out,HRE.out]
 go_upto_region 2 with (fail)
 rw [Hw1.out]
 clear c0 c1 c2 c3 c4 c5 c6 c7 c8 c9
 obtain⟨v1,hv1⟩:∃ v1,Value.slice (some ⟨W1.heap.size,0,none⟩) 1 1=v1:=⟨_,rfl⟩
 rw [hv1] at H1 ⊢
 clear hv1
 obtain⟨B1,hB1⟩:∃ B1,[8]=B1:=⟨_,rfl⟩
 obtain⟨m1,hm1⟩:∃ m1,1=m1:=⟨_,rfl⟩
 have hq1:m1≤1:=by omega
 have HL1:Hid (B1.length=m1):=hid (by rw [← hB1,← hm1];rfl)
 clear hm1
 rw [hB1] at H1
 have HBq1:=hid hB1
 clear hB1
 have HGX:=hid (HX1.out.later H1.out.below)
 obtain⟨c0,c1,c2,c3,c4,c5,c6,c7,c8,c9⟩:=HGX.out.at
 rw [hk] at c0
 go_wp2_with fail
 refine (rn4 r.sg HOK.out.sg w1).mono ?_
 rintro e xs ⟨vv,rfl,hrow,hbs,_⟩
 obtain⟨ps,cs,hv,_,hsl,_⟩:=hrow.sl
 subst hv
 have HBS:=hid hbs.size
 have HFs:=hid (H1.out.later hbs)
 have HSs:=hid hsl
 clear hrow hbs hsl
 clear c0 c1 c2 c3 c4 c5 c6 c7 c8 c9
 have HGX:=hid (HX1.out.later HFs.out.below)
 obtain⟨c0,c1,c2,c3,c4,c5,c6,c7,c8,c9⟩:=HGX.out.at
 rw [hk] at c0
 go_wp2_with fail
 refine (rn4 r.tx HOK.out.tx xs).mono ?_
 rintro e xt ⟨vv,rfl,hrow,hbt,hot⟩
 obtain⟨pt,ct,hv,_,hsl,hqt⟩:=hrow.sl
 have HPT:Hid (∀ a,pt=some a→w1.heap.size≤a.block):=hid fun a ha=>by have h1:=hot _ (hqt a ha);have h2:=HBS.out;omega
 have HV1:Hid (∀ k,v1.ownBlock=some k→k<w1.heap.size):=hid H1.out.row.bound
 clear hot hqt
 subst hv
 have HFt:=hid (HFs.out.later hbt)
 have HSt:=hid hsl
 have HSs:=hid (HSs.out.later hbt)
 clear hrow hbt hsl
 clear c0 c1 c2 c3 c4 c5 c6 c7 c8 c9
 have HGX:=hid (HX1.out.later HFt.out.below)
 obtain⟨c0,c1,c2,c3,c4,c5,c6,c7,c8,c9⟩:=HGX.out.at
 rw [hk] at c0
 go_wp2_with (first | (at_builtin;refine z0j (k:=1) (by decide) Tryz.underlying33 z0x rfl (by omega) rfl _ _ rfl v1 m1 (vL B1) rfl (by rw [← HL1.out];exact HFt.out.row.own) ps 4 cs (vL (le r.sg.toNat 4)) rfl (by rw [z1h,Nat.mul_one];exact HSs.out.len) (z2c HSs.out) (z2e HSs.out) (z1t _) (by omega) ?_;intro pn cn w3 h1 h2 h3))
 have hf:=HFt.out.app (M:=(le r.sg.toNat 4)) HSs.out.lt h1 h2 h3
 clear h1 h2 h3
 generalize hB2:B1++(le r.sg.toNat 4)=B2 at hf
 have HBq2:=hid hB2
 have HL2:Hid (B2.length=m1+4):=hid (by rw [← hB2,List.length_append,HL1.out];first | rfl | (simp only [z0o];try omega))
 generalize Value.slice pn (m1+4) cn=v2 at *
 have H2:=hid hf
 clear hf hB2
 obtain⟨m2,hm2⟩:∃ z,m1+4=z:=⟨_,rfl⟩
 have hq2:m2≤m1+4:=by omega
 rw [hm2] at HL2
 clear hm2
 obtain⟨w2,hw2x⟩:∃ x,x=w3:=⟨_,rfl⟩
 subst hw2x
 clear c0 c1 c2 c3 c4 c5 c6 c7 c8 c9
 go_ret
 have hst:le r.st.toNat 1=[r.st.toNat]:=z3m (by have e:=HOK.out.st;change 0≤r.st∧r.st≤255 at e;omega)
 have hoo:le r.o.toNat 1=[r.o.toNat]:=z3m (by have e:=HOK.out.o;change 0≤r.o∧r.o≤255 at e;omega)
 have hfin:z0n (r.x L T M)=B2:=by
  rw [← HBq2.out,← HBq1.out]
  unfold z0n
  rw [show (r.x L T M).k=8 from hk,show le (8:Int).toNat 1=[8] from rfl]
  simp [kS,kT,kB,kA,kO,kP,Rv.x,keyB,List.append_assoc,hst,hoo]
 rw [hfin]
 exact⟨_,rfl,H2.out.row,HB1.out.trans (H2.out.below.mono HB1.out.size),fun k hk=>Nat.le_trans HB1.out.size (H2.out.own k hk)⟩
theorem rrec_bytes9 (r:Rv) (L:List Ln) (T:List Tk) (M:List Ln) (W:World) (hP:RvM W r L T M) (hok:Rxok (r.x L T M)) (h1:r.ln≤20∧r.tn≤30∧r.wn≤20) (hk:r.k=9):Calls Tryz.prog 48 #[.agg (rcs r)] W (z2z W (z0n (r.x L T M)).length (z0n (r.x L T M))):=by
 obtain⟨W1,hW1,hb1⟩:∃ W1,W.alloc (.cells (rcs r) 51)=W1∧Below W.heap.size W W1:=⟨_,rfl,(Below.refl _ _).alloc (Nat.le_refl _) _⟩
 obtain⟨B,hB⟩:∃ B,W.heap.size=B:=⟨_,rfl⟩
 have hrb:=RB.new W r
 rw [hW1,hB] at hrb
 have h0:FB W1 (W1.alloc (.cells #[.int .u8 9] 5)) (.slice (some ⟨W1.heap.size,0,none⟩) 1 1) [9]:=FB.lit (m:=1) (Below.refl _ _) rfl rfl (by omega) (fun x hx=>by obtain rfl:=List.mem_singleton.1 hx;omega)
 obtain⟨w1,hw1⟩:∃ w1,W1.alloc (.cells #[.int .u8 9] 5)=w1:=⟨_,rfl⟩
 rw [hw1] at h0
 have Hw1:=hid hw1
 have H1:=hid h0
 have HX1:=hid hrb
 have HW1:=hid hW1
 have HB1:=hid hb1
 have HRE:=hid hB
 have HOK:=hid hok
 have HP:=hid hP
 have HH:=hid h1
 have u1:IntKind.u64.wrap r.sg=r.sg:=z0q hok.sg
 have u2:IntKind.u64.wrap r.tx=r.tx:=z0q hok.tx
 have HGX:=hid (HX1.out)
 obtain⟨c0,c1,c2,c3,c4,c5,c6,c7,c8,c9⟩:=HGX.out.at
 rw [hk] at c0
 clear hW1 hB hb1 hrb hP h0 hw1 h1 hok
 go_enter Tryz.func48,Tryz.ntmps48
 go_upto_region 1 with (fail)
 rw [HW1.out,HRE.out]
 go_upto_region 2 with (fail)
 rw [Hw1.out]
 clear c0 c1 c2 c3 c4 c5 c6 c7 c8 c9
 obtain⟨v1,hv1⟩:∃ v1,Value.slice (some ⟨W1.heap.size,0,none⟩) 1 1=v1:=⟨_,rfl⟩
 rw [hv1] at H1 ⊢
 clear hv1
 obtain⟨B1,hB1⟩:∃ B1,[9]=B1:=⟨_,rfl⟩
 obtain⟨m1,hm1⟩:∃ m1,1=m1:=⟨_,rfl⟩
 have hq1:m1≤1:=by omega
 have HL1:Hid (B1.length=m1):=hid (by rw [← hB1,← hm1];rfl)
 clear hm1
 rw [hB1] at H1
 have HBq1:=hid hB1
 clear hB1
 have HGX:=hid (HX1.out.later H1.out.below)
 obtain⟨c0,c1,c2,c3,c4,c5,c6,c7,c8,c9⟩:=HGX.out.at
 rw [hk] at c0
 go_wp2_with fail
 refine (rn4 r.sg HOK.out.sg w1).mono ?_
 rintro e xs ⟨vv,rfl,hrow,hbs,_⟩
 obtain⟨ps,cs,hv,_,hsl,_⟩:=hrow.sl
 subst hv
 have HBS:=hid hbs.size
 have HFs:=hid (H1.out.later hbs)
 have HSs:=hid hsl
 clear hrow hbs hsl
 clear c0 c1 c2 c3 c4 c5 c6 c7 c8 c9
 have HGX:=hid (HX1.out.later HFs.out.below)
 obtain⟨c0,c1,c2,c3,c4,c5,c6,c7,c8,c9⟩:=HGX.out.at
 rw [hk] at c0
 go_wp2_with fail
 refine (rn4 r.tx HOK.out.tx xs).mono ?_
 rintro e xt ⟨vv,rfl,hrow,hbt,hot⟩
 obtain⟨pt,ct,hv,_,hsl,hqt⟩:=hrow.sl
 have HPT:Hid (∀ a,pt=some a→w1.heap.size≤a.block):=hid fun a ha=>by have h1:=hot _ (hqt a ha);have h2:=HBS.out;omega
 have HV1:Hid (∀ k,v1.ownBlock=some k→k<w1.heap.size):=hid H1.out.row.bound
 clear hot hqt
 subst hv
 have HFt:=hid (HFs.out.later hbt)
 have HSt:=hid hsl
 have HSs:=hid (HSs.out.later hbt)
 clear hrow hbt hsl
 clear c0 c1 c2 c3 c4 c5 c6 c7 c8 c9
 have HGX:=hid (HX1.out.later HFt.out.below)
 obtain⟨c0,c1,c2,c3,c4,c5,c6,c7,c8,c9⟩:=HGX.out.at
 rw [hk] at c0
 go_upto_region 25 with (at_builtin;refine z0j (k:=1) (by decide) Tryz.underlying33 z0x rfl (by omega) rfl _ _ rfl v1 m1 (vL B1) rfl (by rw [← HL1.out];exact HFt.out.row.own) ps 4 cs (vL (le r.sg.toNat 4)) rfl (by rw [z1h,Nat.mul_one];exact HSs.out.len) (z2c HSs.out) (z2e HSs.out) (z1t _) (by omega) ?_;intro pn cn w3 h1 h2 h3)
 have hf:=HFt.out.app (M:=(le r.sg.toNat 4)) HSs.out.lt h1 h2 h3
 clear h1 h2 h3
 generalize hB2:B1++(le r.sg.toNat 4)=B2 at hf
 have HBq2:=hid hB2
 have HL2:Hid (B2.length=m1+4):=hid (by rw [← hB2,List.length_append,HL1.out];first | rfl | (simp only [z0o];try omega))
 generalize Value.slice pn (m1+4) cn=v2 at *
 have H2:=hid hf
 clear hf hB2
 obtain⟨m2,hm2⟩:∃ z,m1+4=z:=⟨_,rfl⟩
 have hq2:m2≤m1+4:=by omega
 rw [hm2] at HL2
 clear hm2
 obtain⟨w2,hw2x⟩:∃ x,x=w3:=⟨_,rfl⟩
 subst hw2x
 clear c0 c1 c2 c3 c4 c5 c6 c7 c8 c9
 have HGX:=hid (HX1.out.later H2.out.below)
 obtain⟨c0,c1,c2,c3,c4,c5,c6,c7,c8,c9⟩:=HGX.out.at
 rw [hk] at c0
 have HFA:=hid (H2.out.later (show Below w2.heap.size w2 (w2.alloc (.cells #[.int .u8 r.o] 5)) from (Below.refl _ _).alloc (Nat.le_refl _) _))
 go_wp2_with (first | (at_builtin;refine z0j (k:=1) (by decide) Tryz.underlying33 z0x rfl (by omega) rfl _ _ rfl v2 m2 (vL B2) rfl (by rw [← HL2.out];exact HFA.out.row.own) (some ⟨w2.heap.size,0,none⟩) 1 1 (vL [r.o.toNat]) rfl (by rw [z1h];rfl) (fun h=>by cases h) (z3k w2 #[.int .u8 r.o] [r.o.toNat] (vL_one1 HOK.out.o)) (z1t _) (by omega) ?_;intro pn cn w3 h1 h2 h3))
 have hf:=HFA.out.app (M:=[r.o.toNat]) (fun y hy=>by obtain rfl:=List.mem_singleton.1 hy;have:=HOK.out.o;change 0≤r.o∧r.o≤255 at this;omega) h1 h2 h3
 clear h1 h2 h3
 generalize hB3:B2 ++ [r.o.toNat]=B3 at hf
 have HBq3:=hid hB3
 have HL3:Hid (B3.length=m2+1):=hid (by rw [← hB3,List.length_append,HL2.out];first | rfl | (simp only [z0o];try omega))
 generalize Value.slice pn (m2+1) cn=v3 at *
 have H3:=hid hf
 clear hf hB3
 obtain⟨m3,hm3⟩:∃ z,m2+1=z:=⟨_,rfl⟩
 have hq3:m3≤m2+1:=by omega
 rw [hm3] at HL3
 clear hm3
 obtain⟨w3,hw3x⟩:∃ x,x=w3:=⟨_,rfl⟩
 subst hw3x
 clear c0 c1 c2 c3 c4 c5 c6 c7 c8 c9
 go_ret
 have hst:le r.st.toNat 1=[r.st.toNat]:=z3m (by have e:=HOK.out.st;change 0≤r.st∧r.st≤255 at e;omega)
 have hoo:le r.o.toNat 1=[r.o.toNat]:=z3m (by have e:=HOK.out.o;change 0≤r.o∧r.o≤255 at e;omega)
 have hfin:z0n (r.x L T M)=B3:=by
  rw [← HBq3.out,← HBq2.out,← HBq1.out]
  unfold z0n
  rw [show (r.x L T M).k=9 from hk,show le (9:Int).toNat 1=[9] from rfl]
  simp [kS,kT,kB,kA,kO,kP,Rv.x,keyB,List.append_assoc,hst,hoo]
 rw [hfin]
 exact⟨_,rfl,H3.out.row,HB1.out.trans (H3.out.below.mono HB1.out.size),fun k hk=>Nat.le_trans HB1.out.size (H3.out.own k hk)⟩
theorem rrec_bytes (r:Rv) (L:List Ln) (T:List Tk) (M:List Ln) (W:World) (hP:RvM W r L T M) (hok:Rxok (r.x L T M)) (h1:r.ln≤20∧r.tn≤30∧r.wn≤20) (hg:z1k (r.x L T M)=true):Calls Tryz.prog 48 #[.agg (rcs r)] W (z2z W (z0n (r.x L T M)).length (z0n (r.x L T M))):=by
 have hk:kOk r.k=true:=z9b hg
 rcases z7b hk with h | h | h | h | h | h | h | h | h
 · exact rrec_bytes1 r L T M W hP hok h1 h (by have:=z7w hg;rw [show (r.x L T M).k=1 from h] at this;exact this)
 · exact rrec_bytes2 r L T M W hP hok h1 h
 · exact rrec_bytes3 r L T M W hP hok h1 h
 · exact rrec_bytes4 r L T M W hP hok h1 h
 · exact rrec_bytes5 r L T M W hP hok h1 h
 · exact rrec_bytes6 r L T M W hP hok h1 h
 · exact rrec_bytes7 r L T M W hP hok h1 h
 · exact rrec_bytes8 r L T M W hP hok h1 h
 · exact rrec_bytes9 r L T M W hP hok h1 h
end Go.Proofs.YtfdgnniicjdjdaaGreatDoor
namespace Go.Proofs.YtfdgnniicjdjdaaGreatDoor
open Go.Lib (hid)
set_option maxHeartbeats 16000000
open Go.RowKit Go.ChangeShapes Go.WideShapes Go.Deep
set_option linter.unusedVariables false
set_option maxRecDepth 10000
theorem recCells20:Tryz.prog.cellsOf 51=20:=by kernel_rfl
section
variable {H:Type} {enc:TypeId × Value→H} {w:World} {base:Nat} {held:Bool}
theorem rkey_trod {fuel:Nat} {x y z:Value} {d:DataW H × List MemPlace} (h:DataW.trod enc Tryz.prog w base (fun _=>true) held fuel 45 [x,y,z]=some d):∃ k:K,Kok k∧x=.int .u8 k.1∧y=.int .u8 k.2.1∧z=.int .u8 k.2.2:=by
 obtain⟨xs,n,_,_,hlen,hxl,hg⟩:=DataW.trod_struct Tryz.underlying45 h
 have h3:xs.length=3:=hxl
 have t0:=hg 0 _ rfl
 have t1:=hg 1 _ rfl
 have t2:=hg 2 _ rfl
 rw [List.getElem?_eq_getElem (by omega)] at t0 t1 t2
 have e0:DataW.trod enc Tryz.prog w base (fun _=>true) held n 5 [x]=some (xs[0]'(by omega)):=t0
 have e1:DataW.trod enc Tryz.prog w base (fun _=>true) held n 5 [y]=some (xs[1]'(by omega)):=t1
 have e2:DataW.trod enc Tryz.prog w base (fun _=>true) held n 5 [z]=some (xs[2]'(by omega)):=t2
 obtain⟨z0,hv0,_,wf0⟩:=DataW.trod_int Tryz.underlying5 e0
 obtain⟨z1,hv1,_,wf1⟩:=DataW.trod_int Tryz.underlying5 e1
 obtain⟨z2,hv2,_,wf2⟩:=DataW.trod_int Tryz.underlying5 e2
 simp at hv0 hv1 hv2
 exact⟨(z0,z1,z2),⟨bounds_u8 wf0,bounds_u8 wf1,bounds_u8 wf2⟩,hv0,hv1,hv2⟩
theorem prog_trod {fuel:Nat} {v0 v1 v2 v3 v4 v5 v6 v7 v8 v9:Value} {d:DataW H × List MemPlace} (hf:DataW.trod enc Tryz.prog w base (fun _=>true) held fuel 49 [v0,v1,v2,v3,v4,v5,v6,v7,v8,v9]=some d):∃ (k od po:Int) (lp:Option Addr) (ln lcp:Nat) (tp:Option Addr) (tn tcp:Nat) (wp:Option Addr) (wn wcp:Nat) (sk fr to q:Int) (L:List Ln) (T:List Tk) (M:List Ln),[v0,v1,v2,v3,v4,v5,v6,v7,v8,v9]=[.int .u8 k,.int .u32 od,.int .u8 po,.slice lp ln lcp,.slice tp tn tcp,.slice wp wn wcp,.int .u8 sk,.int .u8 fr,.int .u8 to,.int .i64 q]∧Pgok ⟨k,od,po,L,T,M,sk,fr,to,q⟩∧PgM w lp ln lcp L tp tn tcp T wp wn wcp M:=by
 obtain⟨xs,n,_,_,hlen,hxl,hg⟩:=DataW.trod_struct Tryz.underlying49 hf
 have h10:xs.length=10:=hxl
 have t0:=hg 0 _ rfl
 have t1:=hg 1 _ rfl
 have t2:=hg 2 _ rfl
 have t3:=hg 3 _ rfl
 have t4:=hg 4 _ rfl
 have t5:=hg 5 _ rfl
 have t6:=hg 6 _ rfl
 have t7:=hg 7 _ rfl
 have t8:=hg 8 _ rfl
 have t9:=hg 9 _ rfl
 rw [List.getElem?_eq_getElem (by omega)] at t0 t1 t2 t3 t4 t5 t6 t7 t8 t9
 have e0:DataW.trod enc Tryz.prog w base (fun _=>true) held n 5 [v0]=some (xs[0]'(by omega)):=t0
 have e1:DataW.trod enc Tryz.prog w base (fun _=>true) held n 43 [v1]=some (xs[1]'(by omega)):=t1
 have e2:DataW.trod enc Tryz.prog w base (fun _=>true) held n 5 [v2]=some (xs[2]'(by omega)):=t2
 have e3:DataW.trod enc Tryz.prog w base (fun _=>true) held n 46 [v3]=some (xs[3]'(by omega)):=t3
 have e4:DataW.trod enc Tryz.prog w base (fun _=>true) held n 47 [v4]=some (xs[4]'(by omega)):=t4
 have e5:DataW.trod enc Tryz.prog w base (fun _=>true) held n 46 [v5]=some (xs[5]'(by omega)):=t5
 have e6:DataW.trod enc Tryz.prog w base (fun _=>true) held n 5 [v6]=some (xs[6]'(by omega)):=t6
 have e7:DataW.trod enc Tryz.prog w base (fun _=>true) held n 5 [v7]=some (xs[7]'(by omega)):=t7
 have e8:DataW.trod enc Tryz.prog w base (fun _=>true) held n 5 [v8]=some (xs[8]'(by omega)):=t8
 have e9:DataW.trod enc Tryz.prog w base (fun _=>true) held n 2 [v9]=some (xs[9]'(by omega)):=t9
 obtain⟨z0,hv0,_,wf0⟩:=DataW.trod_int Tryz.underlying5 e0
 obtain⟨z1,hv1,_,wf1⟩:=DataW.trod_int Tryz.underlying43 e1
 obtain⟨z2,hv2,_,wf2⟩:=DataW.trod_int Tryz.underlying5 e2
 obtain⟨z6,hv6,_,wf6⟩:=DataW.trod_int Tryz.underlying5 e6
 obtain⟨z7,hv7,_,wf7⟩:=DataW.trod_int Tryz.underlying5 e7
 obtain⟨z8,hv8,_,wf8⟩:=DataW.trod_int Tryz.underlying5 e8
 obtain⟨z9,hv9,_,wf9⟩:=DataW.trod_int Tryz.underlying2 e9
 simp at hv0 hv1 hv2 hv6 hv7 hv8 hv9
 subst hv0 hv1 hv2 hv6 hv7 hv8 hv9
 obtain⟨p3,n3,c3,rfl⟩:=z6d Tryz.underlying46 e3
 obtain⟨p4,n4,c4,rfl⟩:=z6d Tryz.underlying47 e4
 obtain⟨p5,n5,c5,rfl⟩:=z6d Tryz.underlying46 e5
 obtain⟨L,hL,hLok⟩:=open_lines e3
 obtain⟨T,hT,hTok⟩:=open_takes e4
 obtain⟨M,hM,hMok⟩:=open_lines e5
 exact⟨z0,z1,z2,p3,n3,c3,p4,n4,c4,p5,n5,c5,z6,z7,z8,z9,L,T,M,rfl,⟨bounds_u8 wf0,z8q wf1,bounds_u8 wf2,hLok,hTok,hMok,bounds_u8 wf6,bounds_u8 wf7,bounds_u8 wf8,bounds_i64 wf9⟩,⟨hL,hT,hM⟩⟩
end
theorem rec_trod {H:Type} {enc:TypeId × Value→H} {w:World} {base:Nat} {held:Bool} {fuel:Nat} {cs:List Value} {d:DataW H × List MemPlace} (hf:DataW.trod enc Tryz.prog w base (fun _=>true) held fuel 51 cs=some d):∃ (r:Rv) (L:List Ln) (T:List Tk) (M:List Ln),cs=(rcs r).toList∧Rxok (r.x L T M)∧RvM w r L T M:=by
 obtain⟨xs,n,_,_,hlen,hxl,hg⟩:=DataW.trod_struct Tryz.underlying51 hf
 rw [recCells20] at hlen
 have h9:xs.length=9:=hxl
 obtain⟨v0,v1,v2,v3,v4,v5,v6,v7,v8,v9,v10,v11,v12,v13,v14,v15,v16,v17,v18,v19,rfl⟩:∃ v0 v1 v2 v3 v4 v5 v6 v7 v8 v9 v10 v11 v12 v13 v14 v15 v16 v17 v18 v19,cs=[v0,v1,v2,v3,v4,v5,v6,v7,v8,v9,v10,v11,v12,v13,v14,v15,v16,v17,v18,v19]:=by
  match cs,hlen with
  | [a0,a1,a2,a3,a4,a5,a6,a7,a8,a9,a10,a11,a12,a13,a14,a15,a16,a17,a18,a19],_=>exact⟨a0,a1,a2,a3,a4,a5,a6,a7,a8,a9,a10,a11,a12,a13,a14,a15,a16,a17,a18,a19,rfl⟩
 have t0:=hg 0 _ rfl
 have t1:=hg 1 _ rfl
 have t2:=hg 2 _ rfl
 have t3:=hg 3 _ rfl
 have t4:=hg 4 _ rfl
 have t5:=hg 5 _ rfl
 have t6:=hg 6 _ rfl
 have t7:=hg 7 _ rfl
 have t8:=hg 8 _ rfl
 rw [List.getElem?_eq_getElem (by omega)] at t0 t1 t2 t3 t4 t5 t6 t7 t8
 have e0:DataW.trod enc Tryz.prog w base (fun _=>true) held n 5 [v0]=some (xs[0]'(by omega)):=t0
 have e1:DataW.trod enc Tryz.prog w base (fun _=>true) held n 43 [v1]=some (xs[1]'(by omega)):=t1
 have e2:DataW.trod enc Tryz.prog w base (fun _=>true) held n 43 [v2]=some (xs[2]'(by omega)):=t2
 have e3:DataW.trod enc Tryz.prog w base (fun _=>true) held n 5 [v3]=some (xs[3]'(by omega)):=t3
 have e4:DataW.trod enc Tryz.prog w base (fun _=>true) held n 4 [v4]=some (xs[4]'(by omega)):=t4
 have e5:DataW.trod enc Tryz.prog w base (fun _=>true) held n 45 [v5,v6,v7]=some (xs[5]'(by omega)):=t5
 have e6:DataW.trod enc Tryz.prog w base (fun _=>true) held n 2 [v8]=some (xs[6]'(by omega)):=t6
 have e7:DataW.trod enc Tryz.prog w base (fun _=>true) held n 5 [v9]=some (xs[7]'(by omega)):=t7
 have e8:DataW.trod enc Tryz.prog w base (fun _=>true) held n 49 [v10,v11,v12,v13,v14,v15,v16,v17,v18,v19]=some (xs[8]'(by omega)):=t8
 obtain⟨z0,hv0,_,wf0⟩:=DataW.trod_int Tryz.underlying5 e0
 obtain⟨z1,hv1,_,wf1⟩:=DataW.trod_int Tryz.underlying43 e1
 obtain⟨z2,hv2,_,wf2⟩:=DataW.trod_int Tryz.underlying43 e2
 obtain⟨z3,hv3,_,wf3⟩:=DataW.trod_int Tryz.underlying5 e3
 obtain⟨z6,hv6,_,wf6⟩:=DataW.trod_int Tryz.underlying2 e6
 obtain⟨z7,hv7,_,wf7⟩:=DataW.trod_int Tryz.underlying5 e7
 obtain⟨z4,hv4,_⟩:=DataW.trod_bool Tryz.underlying4 e4
 obtain⟨key,hkey,hk0,hk1,hk2⟩:=rkey_trod e5
 obtain⟨k,od,po,lp,ln,lcp,tp,tn,tcp,wp,wn,wcp,sk,fr,to,q,L,T,M,hpe,hpok,hpm⟩:=prog_trod e8
 simp at hv0 hv1 hv2 hv3 hv4 hv6 hv7
 simp only [List.cons.injEq,and_true] at hpe
 obtain⟨g0,g1,g2,g3,g4,g5,g6,g7,g8,g9⟩:=hpe
 subst hv0 hv1 hv2 hv3 hv4 hv6 hv7 hk0 hk1 hk2 g0 g1 g2 g3 g4 g5 g6 g7 g8 g9
 exact⟨⟨z0,z1,z2,z3,z4,key.1,key.2.1,key.2.2,z6,z7,k,od,po,lp,ln,lcp,tp,tn,tcp,wp,wn,wcp,sk,fr,to,q⟩,L,T,M,rfl,⟨bounds_u8 wf0,z8q wf1,z8q wf2,bounds_u8 wf3,hkey,bounds_i64 wf6,bounds_u8 wf7,hpok⟩,hpm⟩
end Go.Proofs.YtfdgnniicjdjdaaGreatDoor
namespace Go.Proofs.YtfdgnniicjdjdaaGreatDoor
open Go.Lib (hid)
set_option maxHeartbeats 16000000
open Go.RowKit Go.ChangeShapes Go.WideShapes
set_option linter.unusedVariables false
set_option linter.unusedSimpArgs false
set_option maxRecDepth 10000
theorem isfew_p (k od po:Int) (lp:Option Addr) (ln lcp:Nat) (tp:Option Addr) (tn tcp:Nat) (wp:Option Addr) (wn wcp:Nat) (sk fr to q:Int) (W:World):Calls Tryz.prog 80 #[.agg #[.int .u8 k,.int .u32 od,.int .u8 po,.slice lp ln lcp,.slice tp tn tcp,.slice wp wn wcp,.int .u8 sk,.int .u8 fr,.int .u8 to,.int .i64 q]] W fun e w'=>e=.returned (.bool (decide (ln≤20∧tn≤30∧wn≤20)))∧Below W.heap.size W w':=by
 have HB:Hid (Below W.heap.size W (W.alloc (.cells #[.int .u8 k,.int .u32 od,.int .u8 po,.slice lp ln lcp,.slice tp tn tcp,.slice wp wn wcp,.int .u8 sk,.int .u8 fr,.int .u8 to,.int .i64 q] 49))):=hid ((Below.refl _ _).alloc (Nat.le_refl _) _)
 obtain⟨r,hr⟩:∃ r,decide (ln≤20∧tn≤30∧wn≤20)=r:=⟨_,rfl⟩
 have HR:=hid hr
 rw [hr]
 clear hr
 by_cases h1:ln≤20
 case neg =>
  have d1:decide ((ln:Int)≤20)=false:=decide_eq_false (by omega)
  obtain rfl:r=false:=by rw [← HR.out];exact decide_eq_false (by omega)
  go_enter Tryz.func80,Tryz.ntmps80
  go_wp2_with fail
  go_ret
  exact⟨rfl,HB.out⟩
 have d1:decide ((ln:Int)≤20)=true:=decide_eq_true (by omega)
 by_cases h2:tn≤30
 case neg =>
  have d2:decide ((tn:Int)≤30)=false:=decide_eq_false (by omega)
  obtain rfl:r=false:=by rw [← HR.out];exact decide_eq_false (by omega)
  go_enter Tryz.func80,Tryz.ntmps80
  go_wp2_with fail
  go_ret
  exact⟨rfl,HB.out⟩
 have d2:decide ((tn:Int)≤30)=true:=decide_eq_true (by omega)
 by_cases h3:wn≤20
 case neg =>
  have d3:decide ((wn:Int)≤20)=false:=decide_eq_false (by omega)
  obtain rfl:r=false:=by rw [← HR.out];exact decide_eq_false (by omega)
  go_enter Tryz.func80,Tryz.ntmps80
  go_wp2_with fail
  go_ret
  exact⟨rfl,HB.out⟩
 have d3:decide ((wn:Int)≤20)=true:=decide_eq_true (by omega)
 obtain rfl:r=true:=by rw [← HR.out];exact decide_eq_true (by omega)
 go_enter Tryz.func80,Tryz.ntmps80
 go_wp2_with fail
 go_ret
 exact⟨rfl,HB.out⟩
def fewI (ln tn wn:Nat):Int:=if ln≤20∧tn≤30∧wn≤20 then 1 else 0
theorem few_p (k od po:Int) (lp:Option Addr) (ln lcp:Nat) (tp:Option Addr) (tn tcp:Nat) (wp:Option Addr) (wn wcp:Nat) (sk fr to q:Int) (W:World):Calls Tryz.prog 40 #[.agg #[.int .u8 k,.int .u32 od,.int .u8 po,.slice lp ln lcp,.slice tp tn tcp,.slice wp wn wcp,.int .u8 sk,.int .u8 fr,.int .u8 to,.int .i64 q]] W fun e w'=>e=.returned (.int .i64 (fewI ln tn wn))∧Below W.heap.size W w':=by
 obtain⟨W1,hW1,hb1⟩:∃ W1,W.alloc (.cells #[.int .u8 k,.int .u32 od,.int .u8 po,.slice lp ln lcp,.slice tp tn tcp,.slice wp wn wcp,.int .u8 sk,.int .u8 fr,.int .u8 to,.int .i64 q] 49)=W1∧Below W.heap.size W W1:=⟨_,rfl,(Below.refl _ _).alloc (Nat.le_refl _) _⟩
 have HI:=hid (isfew_p k od po lp ln lcp tp tn tcp wp wn wcp sk fr to q W1)
 have HB1:=hid hb1
 have HW1:=hid hW1
 clear hW1 hb1
 by_cases h:ln≤20∧tn≤30∧wn≤20
 · have hi:=HI.out
   rw [decide_eq_true h] at hi
   have HF:Hid (fewI ln tn wn=1):=hid (if_pos h)
   clear h
   go_enter Tryz.func40,Tryz.ntmps40
   go_wp2_with fail
   rw [HW1.out]
   refine hi.mono ?_
   rintro e w2 ⟨rfl,h2⟩
   have HB2:=hid (HB1.out.trans (h2.mono HB1.out.size))
   clear hi h2
   go_wp2_with fail
   go_ret
   exact⟨by rw [HF.out];rfl,HB2.out⟩
 · have hi:=HI.out
   rw [decide_eq_false h] at hi
   have HF:Hid (fewI ln tn wn=0):=hid (if_neg h)
   clear h
   go_enter Tryz.func40,Tryz.ntmps40
   go_wp2_with fail
   rw [HW1.out]
   refine hi.mono ?_
   rintro e w2 ⟨rfl,h2⟩
   have HB2:=hid (HB1.out.trans (h2.mono HB1.out.size))
   clear hi h2
   go_wp2_with fail
   go_ret
   exact⟨by rw [HF.out];rfl,HB2.out⟩
end Go.Proofs.YtfdgnniicjdjdaaGreatDoor
namespace Go.Proofs.YtfdgnniicjdjdaaGreatDoor
open Go.Lib (hid)
set_option maxHeartbeats 16000000
open Go.RowKit Go.ChangeShapes Go.WideShapes Go.Deep
set_option linter.unusedVariables false
set_option maxRecDepth 10000
theorem wf_k16 {z:Int} (h:(Lit.int .u16 z).wf=true):∃ n:Nat,n<65536∧z=n:=by
 have hb:0≤z∧z≤65535:=by simpa [Lit.wf,IntKind.min,IntKind.max,IntKind.bits,IntKind.signed] using h
 exact⟨z.toNat,by omega,by omega⟩
end Go.Proofs.YtfdgnniicjdjdaaGreatDoor
