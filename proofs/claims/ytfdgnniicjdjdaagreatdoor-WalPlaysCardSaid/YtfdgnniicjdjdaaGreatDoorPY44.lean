import Derived.Test.YtfdgnniicjdjdaaGreatDoorPY99
import Derived.Test.YtfdgnniicjdjdaaGreatDoorPY43
import Derived.Test.YtfdgnniicjdjdaaGreatDoorPY20
namespace Go.Proofs.YtfdgnniicjdjdaaGreatDoor
open Go.Lib (hid)
set_option maxHeartbeats 8000000
open Go.RowKit Go.ChangeShapes Go.WideShapes
set_option linter.unusedVariables false
set_option maxRecDepth 10000
set_option linter.unusedSimpArgs false
structure Rn where
 p:Option Addr
 n:Nat
 c:Nat
 s:Nat
 tp:Option Addr
 tn:Nat
 tc:Nat
 F:Nat
 z:Nat
 lp:Option Addr
 ln:Nat
 lc:Nat
 M:Nat
def Rn.cs (D:Rn):Array Value:=#[.slice D.p D.n D.c,.int .i64 (D.s:Nat),.slice D.tp D.tn D.tc,.int .i64 (D.F:Nat),.int .i64 (D.z:Nat),.slice D.lp D.ln D.lc,.int .i64 (D.M:Nat)]
structure RdN (w:World) (Q:Nat→Prop) (D:Rn) (d:DS):Prop where
 rd:RdD w Q D.p D.c D.tp D.tc D.lp D.lc d
 n:D.n=d.V.length
 s:D.s=d.s
 tn:D.tn=d.t.B.length
 F:D.F=d.t.f*d.z
 z:D.z=d.z
 ln:D.ln=d.L.length
 M:D.M=d.M
theorem RdN.cs {w:World} {Q:Nat→Prop} {D:Rn} {d:DS} (h:RdN w Q D d):rdc D.p d.V.length D.c d.s D.tp d.t.B.length D.tc (d.t.f*d.z) d.z D.lp d.L.length D.lc d.M=D.cs:=by
 rw [← h.n,← h.s,← h.tn,← h.F,← h.z,← h.ln,← h.M]
 rfl
theorem RdN.keep {w w':World} {Q S:Nat→Prop} {D:Rn} {d:DS} (h:RdN w Q D d) (hc:Chg S w w') (hs:∀ k,Q k→¬ S k):RdN w' Q D d:=⟨h.rd.keep hc hs,h.n,h.s,h.tn,h.F,h.z,h.ln,h.M⟩
theorem RdN.later {w w':World} {Q:Nat→Prop} {D:Rn} {d:DS} (h:RdN w Q D d) (hb:Below w.heap.size w w'):RdN w' Q D d:=⟨h.rd.later hb,h.n,h.s,h.tn,h.F,h.z,h.ln,h.M⟩
theorem RdN.mono {w:World} {Q R:Nat→Prop} {D:Rn} {d:DS} (h:RdN w Q D d) (hs:∀ k,Q k→k<w.heap.size→R k):RdN w R D d:=⟨h.rd.mono hs,h.n,h.s,h.tn,h.F,h.z,h.ln,h.M⟩
theorem RdN.of {w:World} {Q:Nat→Prop} {p tp lp:Option Addr} {c tc lc:Nat} {d:DS} (h:RdD w Q p c tp tc lp lc d):RdN w Q ⟨p,d.V.length,c,d.s,tp,d.t.B.length,tc,d.t.f*d.z,d.z,lp,d.L.length,lc,d.M⟩ d:=⟨h,rfl,rfl,rfl,rfl,rfl,rfl,rfl⟩
def q1d (w:World) (Q:Nat→Prop) (d:DS) (e:Ending) (w':World):Prop:=∃ D:Rn,e=.returned (.agg D.cs)∧RdN w' Q D d∧Below w.heap.size w w'
def GivesRkE (w:World) (Q:Nat→Prop) (d:DS) (x:Int) (e:Ending) (w':World):Prop:=∃ D:Rn,e=.returned (.tuple #[.agg D.cs,.int .i64 x])∧RdN w' Q D d∧Below w.heap.size w w'
theorem rdn_new (x y a:Int) (M:Nat) (hM:M≤1048576) (w:World):Calls Tryz.prog 15 #[.int .i64 x,.int .i64 y,.int .i64 a,.int .i64 (M:Nat)] w (q1d w (fun k=>w.heap.size≤k) (DS.new x y a (M:Nat))):=by
 refine (refdnew_any x y a M hM w).mono ?_
 rintro e w' ⟨p,c,tp,tc,lp,lc,rfl,h1,h2⟩
 exact⟨_,rfl,RdN.of h1,h2⟩
theorem rdn_sync {D:Rn} {d:DS} {w:World} {Q:Nat→Prop} (h:RdN w Q D d) (hQ:∀ k,w.heap.size≤k→Q k) (hbig:d.tot≤1000000):Calls Tryz.prog 29 #[.agg D.cs] w (q1d w Q d.sync):=by
 have h1:=refsync_any d w Q hQ h.rd hbig
 rw [h.cs] at h1
 refine h1.mono ?_
 rintro e w' ⟨p,c,tp,tc,lp,lc,rfl,h1,h2⟩
 exact⟨_,rfl,RdN.of h1,h2⟩
theorem z6s {D:Rn} {d:DS} {w:World} {Q:Nat→Prop} (h:RdN w Q D d) (hQ:∀ k,w.heap.size≤k→Q k) (y:Wd) (hy:y.ok w Q) (hbig:d.tot≤1000000) (hLL:d.L.length≤1000) (hM:d.M≤1048576) :
 Calls Tryz.prog 28 #[.agg D.cs,.agg #[.int .i64 (y.k:Nat),.int .i64 y.i,.slice y.q y.m y.cq,.int .i64 y.n]] w (GivesRkE w Q (z9q d y.x) (z8r d y.x)):=by
 have h1:=refwith_any d y w Q hQ h.rd hy hbig hLL hM
 rw [h.cs] at h1
 refine h1.mono ?_
 rintro e w' ⟨p,c,tp,tc,lp,lc,rfl,h1,h2⟩
 exact⟨_,rfl,RdN.of h1,h2⟩
theorem rdn_seen {D:Rn} {d:DS} {w:World} {Q:Nat→Prop} (h:RdN w Q D d) (hQ:∀ k,w.heap.size≤k→Q k) (hbig:d.tot≤1000000):Calls Tryz.prog 59 #[.agg D.cs] w (RdDo w Q d.s d.z d.V.length d.sV d.sT):=by
 have h1:=z6f d w Q hQ h.rd hbig
 rw [h.cs] at h1
 exact h1
structure Gn where
 D:Rn
 wp:Option Addr
 wn:Nat
 wc:Nat
 wr:Nat
 su:Nat
 kp:Nat
def Gn.cs (g:Gn):Array Value:=#[.slice g.D.p g.D.n g.D.c,.int .i64 (g.D.s:Nat),.slice g.D.tp g.D.tn g.D.tc,.int .i64 (g.D.F:Nat),.int .i64 (g.D.z:Nat),.slice g.D.lp g.D.ln g.D.lc,.int .i64 (g.D.M:Nat),.slice g.wp g.wn g.wc,.int .i64 (g.wr:Nat),.int .i64 (g.su:Nat),.int .i64 (g.kp:Nat)]
structure RlN (w:World) (Q:Nat→Prop) (g:Gn) (s:LS):Prop where
 rd:RdN w Q g.D s.d
 bl:BL w g.wp g.wn g.wc (zi s.wb)
 wq:0<g.wn→∀ a,g.wp=some a→Q a.block
 lt:∀ x∈s.wb,x<256
 wr:g.wr=s.wr
 su:g.su=s.su
 kp:g.kp=s.kp
theorem RlN.keep {w w':World} {Q S:Nat→Prop} {g:Gn} {s:LS} (h:RlN w Q g s) (hc:Chg S w w') (hs:∀ k,Q k→¬ S k):RlN w' Q g s:=⟨h.rd.keep hc hs,BL.keep h.bl hc fun h0 a ha=>hs _ (h.wq h0 a ha),h.wq,h.lt,h.wr,h.su,h.kp⟩
theorem RlN.later {w w':World} {Q:Nat→Prop} {g:Gn} {s:LS} (h:RlN w Q g s) (hb:Below w.heap.size w w'):RlN w' Q g s:=h.keep (Chg.of_below (S:=fun _=>False) hb) fun _ _ h=>h
theorem RlN.mono {w:World} {Q R:Nat→Prop} {g:Gn} {s:LS} (h:RlN w Q g s) (hs:∀ k,Q k→k<w.heap.size→R k):RlN w R g s:=⟨h.rd.mono hs,h.bl,bl_q h.bl h.wq hs,h.lt,h.wr,h.su,h.kp⟩
theorem RlN.wn {w:World} {Q:Nat→Prop} {g:Gn} {s:LS} (h:RlN w Q g s):s.wb.length=g.wn:=by rw [← q1o];exact h.bl.len
abbrev DBx (w:World) (B:Nat) (D:Rn):Prop:=w.heap[B]?=some (.cells D.cs 38 (0,0))
abbrev LBx (w:World) (B:Nat) (g:Gn):Prop:=w.heap[B]?=some (.cells g.cs 40 (0,0))
theorem Rn.one (D:Rn):D.cs.all (·.oneCell')=true:=by simp [Rn.cs,Value.oneCell']
theorem Gn.one (g:Gn):g.cs.all (·.oneCell')=true:=by simp [Gn.cs,Value.oneCell']
def rn0:Rn:=⟨none,0,0,0,none,0,0,0,0,none,0,0,0⟩
def gn0:Gn:=⟨rn0,none,0,0,0,0,0⟩
theorem Gn.part (g:Gn):∀ j,j<g.D.cs.size→g.cs[0+j]?=g.D.cs[j]?:=by
 intro j hj
 have h7:j<7:=hj
 rcases (by omega:j=0∨j=1∨j=2∨j=3∨j=4∨j=5∨j=6) with rfl | rfl | rfl | rfl | rfl | rfl | rfl <;> rfl
theorem Gn.put (g:Gn) (D:Rn):z8f g.cs 0 D.cs.toList={ g with D:=D }.cs:=by simp [z8f,Gn.cs,Rn.cs]
theorem LBx.at {w:World} {B:Nat} {g:Gn} (h:LBx w B g):w.cell? ⟨B,7,none⟩=some (.slice g.wp g.wn g.wc)∧w.cell? ⟨B,8,none⟩=some (.int .i64 (g.wr:Nat))∧w.cell? ⟨B,9,none⟩=some (.int .i64 (g.su:Nat))∧w.cell? ⟨B,10,none⟩=some (.int .i64 (g.kp:Nat)):=⟨z0a h rfl,z0a h rfl,z0a h rfl,z0a h rfl⟩
section
variable {ops:Array Oper} {rest:List Oper} {a:Act} {w:World} {Q:Exit→Act→World→Prop} {dst:Option Tmp} {ty:TypeId} {pos:String} {after:Array Edge} {B:Nat} {x y:Operand}
theorem z2b {D:Rn} (hC:DBx w B D) (hx:a.eval x=.pointer (some ⟨B,0,none⟩))
 (h:wpList Tryz.prog ops Q rest (a.put dst (.agg D.cs)) w):wpList Tryz.prog ops Q (Oper.mk dst (.load 38 x) ty pos after none::rest) a w :=
 wpList_load_row rfl 38 x rfl B hx 38 D.cs (0,0) _ hC Tryz.underlying38 rfl (by kernel_rfl) h
theorem z1m {g:Gn} (hC:LBx w B g) (hx:a.eval x=.pointer (some ⟨B,0,none⟩))
 (h:wpList Tryz.prog ops Q rest (a.put dst (.agg g.cs)) w):wpList Tryz.prog ops Q (Oper.mk dst (.load 40 x) ty pos after none::rest) a w :=
 wpList_load_row rfl 40 x rfl B hx 40 g.cs (0,0) _ hC Tryz.underlying40 rfl (by kernel_rfl) h
theorem z2l {gd:Option (Nat × Bool)} {g:Gn} (hC:LBx w B g) (hw:Region.wanted (Oper.mk dst (.load 40 x) ty pos after gd) (yielded ops a.tmps)=true) (hx:a.eval x=.pointer (some ⟨B,0,none⟩))
 (h:wpList Tryz.prog ops Q rest (a.put dst (.agg g.cs)) w):wpList Tryz.prog ops Q (Oper.mk dst (.load 40 x) ty pos after gd::rest) a w :=
 wpList_step fun K hK=>by
  rw [if_pos hw]
  exact wp_load_row 40 x rfl B hx 40 g.cs (0,0) _ hC Tryz.underlying40 rfl (by kernel_rfl) (hK _ _ h)
theorem z2m {g:Gn} (hC:LBx w B g) (hx:a.eval x=.pointer (some ⟨B,0,none⟩))
 (h:wpList Tryz.prog ops Q rest (a.put dst (.agg g.D.cs)) w):wpList Tryz.prog ops Q (Oper.mk dst (.load 38 x) ty pos after none::rest) a w :=
 z3w rfl 38 x rfl B 0 hx 40 g.cs g.D.cs (0,0) _ hC g.part Tryz.underlying38 rfl (by kernel_rfl) h
theorem z1f {D:Rn} (D':Rn) (hC:DBx w B D) (hx:a.eval x=.pointer (some ⟨B,0,none⟩)) (hy:a.eval y=.agg D'.cs)
 (h:wpList Tryz.prog ops Q rest (a.put dst undef) (w.setRow B D'.cs)):wpList Tryz.prog ops Q (Oper.mk dst (.store 38 x y) ty pos after none::rest) a w :=
 wpList_store_row rfl 38 x y rfl B D'.cs hx hy 38 D.cs hC (by kernel_rfl) rfl D'.one h
theorem z1e {g:Gn} (g':Gn) (hC:LBx w B g) (hx:a.eval x=.pointer (some ⟨B,0,none⟩)) (hy:a.eval y=.agg g'.cs)
 (h:wpList Tryz.prog ops Q rest (a.put dst undef) (w.setRow B g'.cs)):wpList Tryz.prog ops Q (Oper.mk dst (.store 40 x y) ty pos after none::rest) a w :=
 wpList_store_row rfl 40 x y rfl B g'.cs hx hy 40 g.cs hC (by kernel_rfl) rfl g'.one h
theorem wpList_store_lgd {g:Gn} (D':Rn) (hC:LBx w B g) (hx:a.eval x=.pointer (some ⟨B,0,none⟩)) (hy:a.eval y=.agg D'.cs)
 (h:wpList Tryz.prog ops Q rest (a.put dst undef) (w.setRow B { g with D:=D' }.cs)):wpList Tryz.prog ops Q (Oper.mk dst (.store 38 x y) ty pos after none::rest) a w :=
 z3n rfl 38 x y rfl B 0 D'.cs hx hy 40 g.cs hC (by kernel_rfl) (by show 0+7≤11;omega) D'.one (by rw [g.put];exact h)
end
theorem z9y (g:Gn) (w:World) (hb:g.wr+g.wn≤2000000):Calls Tryz.prog 64 #[.agg g.cs] w fun e w'=>e=.returned (.int .i64 ((g.wr+g.wn:Nat):Int))∧Below w.heap.size w w':=by
 have h0:LBx (w.alloc (.cells g.cs 40)) w.heap.size g:=z0e _ _
 obtain⟨c7,c8,c9,c10⟩:=LBx.at h0
 have HB:Hid (Below w.heap.size w (w.alloc (.cells g.cs 40))):=hid ((Below.refl _ _).alloc (Nat.le_refl _) _)
 obtain⟨X,hX⟩:∃ X,w.heap.size=X:=⟨_,rfl⟩
 obtain⟨W1,hW⟩:∃ W1,w.alloc (.cells g.cs 40)=W1:=⟨_,rfl⟩
 rw [hW,hX] at c7 c8
 rw [hW] at HB
 have HW:=hid hW
 have HX:=hid hX
 clear h0 c9 c10 hW hX
 have e1:(g.wr:Int)+(g.wn:Int)=((g.wr+g.wn:Nat):Int):=by omega
 generalize g.wr+g.wn=E at *
 go_enter Tryz.func64,Tryz.ntmps64
 go_upto_region 1 with (fail)
 rw [HW.out,HX.out]
 generalize g.wr=wr at *
 generalize g.wn=wn at *
 go_wp2_with fail
 go_ret
 exact⟨rfl,HB.out⟩
theorem z6j (x:Int) (lo hi:Nat) (h:lo≤hi) (w:World):Calls Tryz.prog 60 #[.int .i64 x,.int .i64 (lo:Nat),.int .i64 (hi:Nat)] w fun e w'=>e=.returned (.int .i64 (kn x lo hi:Nat))∧w'=w:=by
 go_enter Tryz.func60,Tryz.ntmps60
 by_cases h1:x<(lo:Int)
 · have hk:kn x lo hi=lo:=by unfold kn;omega
   rw [hk]
   go_wp2_with fail
   go_ret
   exact⟨rfl,rfl⟩
 · by_cases h2:(hi:Int)<x
   · have hk:kn x lo hi=hi:=by unfold kn;omega
     rw [hk]
     go_wp2_with fail
     go_ret
     exact⟨rfl,rfl⟩
   · have hk:((kn x lo hi:Nat):Int)=x:=by unfold kn;omega
     rw [hk]
     go_wp2_with fail
     go_ret
     exact⟨rfl,rfl⟩
abbrev lgz:Array Value:=#[.slice none 0 0,.int .i64 0,.slice none 0 0,.int .i64 0,.int .i64 0,.slice none 0 0,.int .i64 0,.slice none 0 0,.int .i64 0,.int .i64 0,.int .i64 0]
theorem q1r (w:World) (g:Gn):∃ W2 X,(w.alloc (.cells g.cs 40)).alloc (.cells lgz 40)=W2∧w.heap.size=X∧LBx W2 X g∧LBx W2 (X+1) gn0∧Below w.heap.size w W2∧W2.heap.size=X+2:=by
 obtain⟨h0,h1,h2⟩:=z2o w g.cs lgz 40 40
 exact⟨_,_,rfl,rfl,h0,h1,h2,by simp⟩
theorem LBx.keep {S:Nat→Prop} {w w':World} {B:Nat} {g:Gn} (h:LBx w B g) (hc:Chg S w w') (hn:¬ S B):LBx w' B g:=(hc.block B (z0k h) hn).trans h
theorem LBx.row {w:World} {B:Nat} {g:Gn} (h:LBx w B g) (g':Gn):LBx (w.setRow B g'.cs) B g':=setRow_heap _ _ _ _ _ _ h
theorem LBx.su {w:World} {B:Nat} {g:Gn} (h:LBx w B g) (x:Nat):LBx (w.setCell ⟨B,9,none⟩ (.int .i64 (x:Nat))) B { g with su:=x }:=by
 have:=z0m 9 (.int .i64 (x:Nat)) h
 rw [show g.cs.setIfInBounds 9 (.int .i64 (x:Nat))=Gn.cs { g with su:=x } by simp [Gn.cs]] at this
 exact this
theorem LBx.kp {w:World} {B:Nat} {g:Gn} (h:LBx w B g) (x:Nat):LBx (w.setCell ⟨B,10,none⟩ (.int .i64 (x:Nat))) B { g with kp:=x }:=by
 have:=z0m 10 (.int .i64 (x:Nat)) h
 rw [show g.cs.setIfInBounds 10 (.int .i64 (x:Nat))=Gn.cs { g with kp:=x } by simp [Gn.cs]] at this
 exact this
theorem LBx.wt {w:World} {B:Nat} {g:Gn} (h:LBx w B g) (p:Option Addr) (n c:Nat):LBx (w.setCell ⟨B,7,none⟩ (.slice p n c)) B { g with wp:=p,wn:=n,wc:=c }:=by
 have:=z0m 7 (.slice p n c) h
 rw [show g.cs.setIfInBounds 7 (.slice p n c)=Gn.cs { g with wp:=p,wn:=n,wc:=c } by simp [Gn.cs]] at this
 exact this
def q2f (w:World) (Q:Nat→Prop) (s:LS) (e:Ending) (w':World):Prop:=∃ g:Gn,e=.returned (.agg g.cs)∧RlN w' Q g s∧Below w.heap.size w w'
def GivesLE (w:World) (Q:Nat→Prop) (s:LS) (x:Int) (e:Ending) (w':World):Prop:=∃ g:Gn,e=.returned (.tuple #[.agg g.cs,.int .i64 x])∧RlN w' Q g s∧Below w.heap.size w w'
def GivesLP (w:World) (Q:Nat→Prop) (s:LS) (z:Nat) (x:Int) (e:Ending) (w':World):Prop:=∃ g:Gn,e=.returned (.tuple #[.agg g.cs,.int .i64 (z:Nat),.int .i64 x])∧RlN w' Q g s∧Below w.heap.size w w'
theorem z6r {w w3 W:World} {Q S:Nat→Prop} {g:Gn} {s:LS} (hb:Below w.heap.size w w3) (hr:RlN w3 (fun k=>Q k∧¬ S k) g s) (hc:Chg S w3 W) (hS:∀ k,S k→w.heap.size≤k):RlN W Q g s∧Below w.heap.size w W :=
 ⟨(hr.keep hc fun k hk=>hk.2).mono fun k hk _=>hk.1,hc.below hb hb.size hS⟩
theorem rlog_sync {g:Gn} {s:LS} {w:World} {Q:Nat→Prop} (h:RlN w Q g s) (hQ:∀ k,w.heap.size≤k→Q k) (hbig:s.d.tot≤1000000):Calls Tryz.prog 19 #[.agg g.cs] w (q2f w Q s.sync):=by
 obtain⟨W2,X,hW,hX,h0,h1,hb,hs⟩:=q1r w g
 have h2:RlN W2 (fun k=>Q k∧¬ (k=X∨k=X+1)) g s:=(h.mono (R:=fun k=>Q k∧¬ (k=X∨k=X+1)) fun k hk hl=>⟨hk,by omega⟩).later hb
 have hsy:=rdn_sync h2.rd (fun k hk=>⟨hQ k (by omega),by omega⟩) hbig
 have HW:=hid hW
 have HX:=hid hX
 have H0:=hid h0
 have H1:=hid h1
 have H2:=hid h2
 have HB:=hid hb
 have HS:=hid hs
 clear hW hX h0 h1 h2 hb h hs
 go_enter Tryz.func19,Tryz.ntmps19
 go_upto_region 1 with (fail)
 rw [HW.out,HX.out]
 go_wp2_with ((with_reducible refine z2m H0.out ?_ ?_);rfl)
 refine hsy.mono ?_
 rintro e w3 ⟨D',rfl,hd,hb3⟩
 have h3:=z0b H0.out hb3
 have z3:LBx w3 (X+1) gn0:=z0b H1.out hb3
 obtain⟨W4,hW4,h4,z4,hc4⟩:∃ W4,w3.setRow X { g with D:=D' }.cs=W4∧LBx W4 X { g with D:=D' }∧LBx W4 (X+1) gn0∧Chg (fun k=>k=X) w3 W4:=⟨_,rfl,LBx.row h3 _,LBx.keep z3 (Chg.setRow _) (by omega),Chg.setRow _⟩
 obtain⟨_,c8,_,_⟩:=LBx.at h4
 have f9:=z0c 9 h4
 have c9:=(LBx.at h4).2.2.1
 have H3:=hid h3
 have HW4:=hid hW4
 have H5:=hid (LBx.su h4 g.wr)
 have hc5:Chg (fun k=>k=X) w3 (W4.setCell ⟨X,9,none⟩ (.int .i64 (g.wr:Nat))):=hc4.setCell _ _ fun _=>rfl
 have z5:LBx (W4.setCell ⟨X,9,none⟩ (.int .i64 (g.wr:Nat))) (X+1) gn0:=LBx.keep z3 hc5 (by omega)
 have Z5:=hid z5
 have HF:=hid (z6r (Q:=Q) (HB.out.trans (hb3.mono HB.out.size)) (g:={ g with D:=D',su:=g.wr }) (s:=s.sync) (S:=fun k=>k=X∨k=X+1) ⟨hd,(H2.out.later hb3).bl,H2.out.wq,H2.out.lt,H2.out.wr,H2.out.wr,H2.out.kp⟩ ((hc5.mono (T:=fun k=>k=X∨k=X+1) fun k _ hk=>.inl hk).trans ((Chg.setRow (w:=W4.setCell ⟨X,9,none⟩ (.int .i64 (g.wr:Nat))) (g:=X+1) (Gn.cs { g with D:=D',su:=g.wr })).mono (T:=fun k=>k=X∨k=X+1) fun k _ hk=>.inr hk) fun _ _ h=>h) (by intro k hk;have:=HX.out;omega))
 have HZ6:=hid (LBx.row z5 { g with D:=D',su:=g.wr })
 clear h3 z3 hW4 h4 z4 hc4 hd hb3 z5 hc5 hsy
 go_wp2_with (first | ((with_reducible refine wpList_store_lgd D' H3.out ?_ ?_ ?_);rfl;rfl;rw [HW4.out]) | ((with_reducible refine z1m H5.out ?_ ?_);rfl) | ((with_reducible refine z1e { g with D:=D',su:=g.wr } Z5.out ?_ ?_ ?_);rfl;rfl))
 refine bodyPost_ret (v:=.agg (Gn.cs { g with D:=D',su:=g.wr })) ?_ rfl ⟨_,rfl,HF.out⟩
 exact results_cell_row rfl _ _ (X+1) 40 _ (0,0) _ rfl HZ6.out Tryz.underlying40 rfl (by kernel_rfl)
abbrev dkz:Array Value:=#[.slice none 0 0,.int .i64 0,.slice none 0 0,.int .i64 0,.int .i64 0,.slice none 0 0,.int .i64 0]
theorem z9k (w:World) (D:Rn):∃ W N,(w.alloc (.cells dkz 38)).setRow N D.cs=W∧w.heap.size=N∧DBx (w.alloc (.cells dkz 38)) N rn0∧DBx W N D∧Below w.heap.size w W:=by
 have h0:DBx (w.alloc (.cells dkz 38)) w.heap.size rn0:=z0e _ _
 exact⟨_,_,rfl,rfl,h0,setRow_heap _ _ _ _ _ _ h0,below_setRow ((Below.refl _ _).alloc (Nat.le_refl _) _) (Nat.le_refl _) _⟩
theorem wd_drop (n:Int):(Wd.x ⟨2,0,none,0,0,[],n⟩)=.drop n:=rfl
theorem rlog_trim {g:Gn} {s:LS} {w:World} {Q:Nat→Prop} (h:RlN w Q g s) (hQ:∀ k,w.heap.size≤k→Q k) (hbig:s.d.tot≤1000000) (hL:s.d.L.length≤1000) (hM:s.d.M≤1048576) (hk:s.kp≤s.su) (x:Int):Calls Tryz.prog 21 #[.agg g.cs,.int .i64 x] w (q2f w Q (s.trim x)):=by
 obtain⟨W2,X,hW,hX,h0,h1,hb,hs⟩:=q1r w g
 have h2:RlN W2 (fun k=>Q k∧¬ (k=X∨k=X+1)) g s:=(h.mono (R:=fun k=>Q k∧¬ (k=X∨k=X+1)) fun k hk hl=>⟨hk,by omega⟩).later hb
 have hbt:=fun w'=>z6j x g.kp g.su (by rw [h.kp,h.su];exact hk) w'
 have hkn:kn x g.kp g.su=kn x s.kp s.su:=by rw [h.kp,h.su]
 obtain⟨z,hz⟩:∃ z,kn x g.kp g.su=z:=⟨_,rfl⟩
 rw [hz] at hbt hkn
 obtain⟨W3,hW3,h3,z3,hc3⟩:∃ W3,W2.setCell ⟨X,10,none⟩ (.int .i64 (z:Nat))=W3∧LBx W3 X { g with kp:=z }∧LBx W3 (X+1) gn0∧Chg (fun k=>k=X) W2 W3:=⟨_,rfl,LBx.kp h0 z,LBx.keep h1 ((Chg.refl (fun k=>k=X) W2).setCell _ _ fun _=>rfl) (by omega),(Chg.refl (fun k=>k=X) W2).setCell _ _ fun _=>rfl⟩
 have hs3:W3.heap.size=X+2:=by rw [← hW3,← hs];simp
 have hr3:RlN W3 (fun k=>Q k∧¬ (k=X∨k=X+1)) { g with kp:=z } { s with kp:=z } :=
  have e:=h2.keep hc3 fun k hk hk2=>hk.2 (.inl hk2)
  ⟨e.rd,e.bl,e.wq,e.lt,e.wr,e.su,rfl⟩
 have hwt:=z6s hr3.rd (fun k hk=>⟨hQ k (by omega),by omega⟩) ⟨2,0,none,0,0,[],(z:Nat)⟩ ⟨SlG.empty _,(fun h=>absurd h (by simp)),(by show 2≤3;omega)⟩ hbig hL hM
 rw [wd_drop] at hwt
 have hst:s.trim x={ s with d:=s.d.add (.drop (z:Nat)),kp:=z }:=by
  unfold LS.trim
  rw [hkn]
 rw [hst]
 obtain⟨_,_,c9,c10⟩:=LBx.at h0
 have f10:=z0c 10 h0
 have d10:=(LBx.at h3).2.2.2
 have HW:=hid hW
 have HX:=hid hX
 have HW3:=hid hW3
 have H3:=hid h3
 have Z3:=hid z3
 have HR3:=hid hr3
 have HB:=hid hb
 have HC3:=hid hc3
 have HS3:=hid hs3
 have HZ:=hid hz
 have HB3:Hid (Below w.heap.size w W3):=hid (hc3.below hb hb.size fun k hk=>by omega)
 clear hW hX h0 h1 hb h hs h2 hkn hz hst hW3 h3 z3 hr3 hc3 hs3
 go_enter Tryz.func21,Tryz.ntmps21
 go_upto_region 1 with (fail)
 rw [HW.out,HX.out]
 go_wp2_with fail
 refine (hbt _).mono ?_
 rintro e w3 ⟨rfl,rfl⟩
 clear hbt
 go_wp2_with ((try rw [HW3.out]);(with_reducible refine z2m H3.out ?_ ?_);rfl)
 refine hwt.mono ?_
 rintro e w4 ⟨D',rfl,hd,hb4⟩
 obtain⟨W5,N,hW5,hN,h50,h5,hb5⟩:=z9k w4 D'
 have hb45:Below W3.heap.size W3 W5:=hb4.trans (hb5.mono hb4.size)
 have g5:LBx W5 X { g with kp:=z }:=z0b H3.out hb45
 have z5:LBx W5 (X+1) gn0:=z0b Z3.out hb45
 have hN2:X+2≤N:=by have:=hb4.size;have:=HS3.out;omega
 obtain⟨W6,hW6,g6,z6,hc6⟩:∃ W6,W5.setRow X (Gn.cs { g with D:=D',kp:=z })=W6∧LBx W6 X { g with D:=D',kp:=z }∧LBx W6 (X+1) gn0∧Chg (fun k=>k=X) W5 W6:=⟨_,rfl,LBx.row g5 _,LBx.keep z5 (Chg.setRow _) (by omega),Chg.setRow _⟩
 have HF:=hid (z6r (Q:=Q) (HB3.out.trans (hb45.mono HB3.out.size)) (g:={ g with D:=D',kp:=z }) (s:={ s with d:=s.d.add (.drop (z:Nat)),kp:=z }) (S:=fun k=>k=X∨k=X+1) ⟨hd.later hb5,(HR3.out.later hb45).bl,HR3.out.wq,HR3.out.lt,HR3.out.wr,HR3.out.su,rfl⟩ ((hc6.mono (T:=fun k=>k=X∨k=X+1) fun k _ hk=>.inl hk).trans ((Chg.setRow (w:=W6) (g:=X+1) (Gn.cs { g with D:=D',kp:=z })).mono (T:=fun k=>k=X∨k=X+1) fun k _ hk=>.inr hk) fun _ _ h=>h) (by intro k hk;have:=HX.out;omega))
 have HZ7:=hid (LBx.row z6 { g with D:=D',kp:=z })
 have HW5:=hid hW5
 have HN:=hid hN
 have H50:=hid h50
 have H5:=hid h5
 have G5:=hid g5
 have HW6:=hid hW6
 have G6:=hid g6
 have Z6:=hid z6
 clear hW5 hN h50 h5 hb45 g5 z5 hW6 g6 z6 hc6 hd hb4 hb5 hwt hN2 c9 c10 f10 d10
 go_wp2_with (first | ((try rw [HN.out]);(with_reducible refine z1f D' H50.out ?_ ?_ ?_);rfl;rfl;rw [HW5.out]) | ((with_reducible refine z2b H5.out ?_ ?_);rfl) | ((with_reducible refine wpList_store_lgd D' G5.out ?_ ?_ ?_);rfl;rfl;rw [HW6.out]) | ((with_reducible refine z1m G6.out ?_ ?_);rfl) | ((with_reducible refine z1e { g with D:=D',kp:=z } Z6.out ?_ ?_ ?_);rfl;rfl))
 refine bodyPost_ret (v:=.agg (Gn.cs { g with D:=D',kp:=z })) ?_ rfl ⟨_,rfl,HF.out⟩
 exact results_cell_row rfl _ _ (X+1) 40 _ (0,0) _ rfl HZ7.out Tryz.underlying40 rfl (by kernel_rfl)
section
variable {a:Act} {w:World} {dst:Option Tmp} {x:Operand} {ty:TypeId} {pos:String} {after:Array Edge} {gd:Option (Nat × Bool)} {B:Nat}
theorem z4r {D:Rn} (hx:a.eval x=.pointer (some ⟨B,0,none⟩)) (hC:DBx w B D):(execOp a.eval (Oper.mk dst (.load 38 x) ty pos after gd)).run Tryz.prog w=.ok (.value (.agg D.cs)) w:=by
 unfold execOp
 simp only [hx,Instr.loadAt,Instr.sureAddr,Sem.run_bind,Sem.run_pure,Result.andThen_ok,run_loadVar_row w B 38 38 D.cs (0,0) _ hC Tryz.underlying38 rfl (by kernel_rfl)]
theorem z2p {g:Gn} (hx:a.eval x=.pointer (some ⟨B,0,none⟩)) (hC:LBx w B g):(execOp a.eval (Oper.mk dst (.load 40 x) ty pos after gd)).run Tryz.prog w=.ok (.value (.agg g.cs)) w:=by
 unfold execOp
 simp only [hx,Instr.loadAt,Instr.sureAddr,Sem.run_bind,Sem.run_pure,Result.andThen_ok,run_loadVar_row w B 40 40 g.cs (0,0) _ hC Tryz.underlying40 rfl (by kernel_rfl)]
theorem held_build_lg {x0 x1 x2 x3 x4:Operand} (g:Gn) (h0:a.eval x0=.agg g.D.cs) (h1:a.eval x1=.slice g.wp g.wn g.wc) (h2:a.eval x2=.int .i64 (g.wr:Nat)) (h3:a.eval x3=.int .i64 (g.su:Nat)) (h4:a.eval x4=.int .i64 (g.kp:Nat)) :
 (execOp a.eval (Oper.mk dst (.build 40 #[(0,x0),(1,x1),(2,x2),(3,x3),(4,x4)]) ty pos after gd)).run Tryz.prog w=.ok (.value (.agg g.cs)) w:=by
 have hb:(Instr.build 40 #[(0,.agg g.D.cs),(1,.slice g.wp g.wn g.wc),(2,.int .i64 (g.wr:Nat)),(3,.int .i64 (g.su:Nat)),(4,.int .i64 (g.kp:Nat))]).run Tryz.prog w=.ok (.agg g.cs) w:=by kernel_rfl
 unfold execOp
 simp only [List.map_toArray,List.map_cons,List.map_nil,h0,h1,h2,h3,h4]
 rw [Sem.run_bind,hb]
 rfl
theorem held_build_l4 {x0 x2 x3 x4:Operand} (g:Gn) (hw:g.wp=none∧g.wn=0∧g.wc=0) (h0:a.eval x0=.agg g.D.cs) (h2:a.eval x2=.int .i64 (g.wr:Nat)) (h3:a.eval x3=.int .i64 (g.su:Nat)) (h4:a.eval x4=.int .i64 (g.kp:Nat)) :
 (execOp a.eval (Oper.mk dst (.build 40 #[(0,x0),(2,x2),(3,x3),(4,x4)]) ty pos after gd)).run Tryz.prog w=.ok (.value (.agg g.cs)) w:=by
 obtain⟨D,wp,wn,wc,wr,su,kp⟩:=g
 obtain⟨rfl,rfl,rfl⟩:=hw
 have hb:(Instr.build 40 #[(0,.agg D.cs),(2,.int .i64 (wr:Nat)),(3,.int .i64 (su:Nat)),(4,.int .i64 (kp:Nat))]).run Tryz.prog w=.ok (.agg (Gn.cs ⟨D,none,0,0,wr,su,kp⟩)) w:=by kernel_rfl
 unfold execOp
 simp only [List.map_toArray,List.map_cons,List.map_nil,h0,h2,h3,h4]
 rw [Sem.run_bind,hb]
 rfl
end
theorem wd_grow (q:Option Addr) (m c:Nat) (b:List Int):(Wd.x ⟨1,0,q,m,c,b,0⟩)=.grow b:=rfl
theorem rlog_write {g:Gn} {s:LS} {w:World} {Q:Nat→Prop} (h:RlN w Q g s) (hQ:∀ k,w.heap.size≤k→Q k) (hbig:s.d.tot≤1000000) (hL:s.d.L.length≤1000) (hM:s.d.M≤1048576) (hf:s.fin≤2000000):Calls Tryz.prog 16 #[.agg g.cs] w (GivesLE w Q s.write s.writeE):=by
 obtain⟨W2,X,hW,hX,h0,h1,hb,hs⟩:=q1r w g
 have h2:RlN W2 (fun k=>Q k∧¬ (k=X∨k=X+1)) g s:=(h.mono (R:=fun k=>Q k∧¬ (k=X∨k=X+1)) fun k hk hl=>⟨hk,by omega⟩).later hb
 have hwt:=z6s h2.rd (fun k hk=>⟨hQ k (by omega),by omega⟩) ⟨1,0,g.wp,g.wn,g.wc,zi s.wb,0⟩ ⟨h2.bl,h2.wq,(by show 1≤3;omega)⟩ hbig hL hM
 rw [wd_grow] at hwt
 have hwn:=h.wn
 have c7:=(LBx.at h0).1
 have HW:=hid hW
 have HX:=hid hX
 have H0:=hid h0
 have H1:=hid h1
 have H2:=hid h2
 have HB:=hid hb
 have HS:=hid hs
 have HFW:Hid (g.wr+g.wn≤2000000∧g.wr+g.wn=s.fin):=hid (by rw [h.wr,← hwn];exact⟨hf,rfl⟩)
 have HWN:=hid hwn
 clear hW hX h0 h1 h2 hb h hs
 by_cases hn:g.wn=0
 · have h00:s.wb=[]:=List.eq_nil_of_length_eq_zero (by rw [hwn];exact hn)
   have e1:s.writeE=0:=if_pos h00
   have e2:s.write=s:=if_pos h00
   rw [e1,e2]
   have HF:=hid (z6r (Q:=Q) HB.out (g:=g) (s:=s) (S:=fun k=>k=X∨k=X+1) H2.out ((Chg.setRow (w:=W2) (g:=X+1) (Gn.cs g)).mono (T:=fun k=>k=X∨k=X+1) fun k _ hk=>.inr hk) (by intro k hk;have:=HX.out;omega))
   have HZ:=hid (LBx.row H1.out g)
   rw [hn] at c7
   clear hwt hwn h00 e1 e2 hn
   go_enter Tryz.func16,Tryz.ntmps16
   go_upto_region 1 with (fail)
   rw [HW.out,HX.out]
   go_wp2_with (first | ((with_reducible refine z1m H0.out ?_ ?_);rfl) | ((with_reducible refine z1e g H1.out ?_ ?_ ?_);rfl;rfl))
   refine bodyPost_ret (v:=.tuple #[.agg g.cs,.int .i64 0]) ?_ rfl ⟨_,rfl,HF.out⟩
   rw [results_cell_tmp rfl]
   simp [asAddr,Result.andThen,run_loadVar_row (P:=Tryz.prog) _ (X+1) 40 40 g.cs (0,0) _ HZ.out Tryz.underlying40 rfl (by kernel_rfl)]
 · have h00:s.wb≠[]:=fun e=>hn (by rw [← hwn,e];rfl)
   have hn0:((g.wn:Int)==0)=false:=by simp;omega
   have e1:s.writeE=s.d.addE (zi s.wb):=if_neg h00
   have hE:z8r s.d (.grow (zi s.wb))=s.d.addE (zi s.wb):=rfl
   rw [hE] at hwt
   by_cases hx:s.d.addE (zi s.wb)=0
   · have e2:s.write={ s with d:=s.d.add (.grow (zi s.wb)),wb:=[],wr:=s.fin }:=by
      unfold LS.write DS.app
      rw [if_neg h00,if_pos hx,if_pos hx]
     have hD:z9q s.d (.grow (zi s.wb))=s.d.add (.grow (zi s.wb)):=if_pos hx
     rw [hD] at hwt
     rw [e1,e2]
     rw [hx] at hwt ⊢
     have hend:=fun w'=>z9y g w' HFW.out.1
     rw [HFW.out.2] at hend
     obtain⟨fn,hfn⟩:∃ x,s.fin=x:=⟨_,rfl⟩
     rw [hfn] at hend ⊢
     have HEND:=hid hend
     have HFN:=hid hfn
     clear hwn h00 e1 e2 hE hD hx hn hend hfn
     go_enter Tryz.func16,Tryz.ntmps16
     go_upto_region 1 with (fail)
     rw [HW.out,HX.out]
     go_wp2_with ((with_reducible refine z2m H0.out ?_ ?_);rfl)
     refine hwt.mono ?_
     rintro e w4 ⟨D',rfl,hd,hb4⟩
     obtain⟨W5,N,hW5,hN,h50,h5,hb5⟩:=z9k w4 D'
     have hb45:Below W2.heap.size W2 W5:=hb4.trans (hb5.mono hb4.size)
     have hX2:X+2≤N:=by have:=hb4.size;have:=HS.out;omega
     have HN2:=hid hX2
     have HR5:Hid (RlN W5 (fun k=>Q k∧¬ (k=X∨k=X+1)) ⟨D',none,0,0,fn,g.su,g.kp⟩ { s with d:=s.d.add (.grow (zi s.wb)),wb:=[],wr:=fn }):=hid ⟨hd.later hb5,SlG.empty _,(fun h=>absurd h (by simp)),(fun x h=>by cases h),rfl,H2.out.su,H2.out.kp⟩
     have HBW5:=hid (HB.out.trans (hb45.mono HB.out.size))
     have HW5:=hid hW5
     have HN:=hid hN
     have H50:=hid h50
     have H5:=hid h5
     have G5:Hid (LBx W5 X g):=hid (z0b H0.out hb45)
     have Z5:Hid (LBx W5 (X+1) gn0):=hid (z0b H1.out hb45)
     clear hW5 hN h50 h5 hb45 hd hb4 hb5 hwt c7 hX2
     go_wp2_with ((try rw [HN.out]);(with_reducible refine z1f D' H50.out ?_ ?_ ?_);rfl;rfl;rw [HW5.out])
     have hbd:Hid (Chg (fun k=>k=X+1) W5 W5.drew):=hid (Chg.of_below (Below.refl _ _).drew)
     refine wp_region_held_drew (S:=fun w'=>Hid (Chg (fun k=>k=X+1) W5 w')) (by kernel_rfl) hbd (fun hHeld=>?_)
     clear hbd
     refine wpAnyH_take (i:=0) (oi:=⟨some 24,_,_,_,_,_⟩) (v:=.agg D'.cs) rfl (by kernel_rfl) (by kernel_rfl) (by kernel_rfl) (fun _ _ _ h=>h) (Or.inl ⟨by rfl,fun w' hw'=>z4r rfl ((hw'.out.block N (z0k H5.out) (by have:=HN2.out;omega)).trans H5.out)⟩) (by assumption) ?_
     simp only [Act.put,sIB,sCZ,sCS]
     refine wpAnyH_take (i:=1) (oi:=⟨some 25,_,_,_,_,_⟩) (v:=.agg g.cs) rfl (by kernel_rfl) (by kernel_rfl) (by kernel_rfl) (fun _ _ _ h=>h) (Or.inl ⟨by rfl,fun w' hw'=>z2p rfl (LBx.keep G5.out hw'.out (by omega))⟩) (by assumption) ?_
     simp only [Act.put,sIB,sCZ,sCS]
     refine wpAnyH_take (i:=3) (oi:=⟨some 27,_,_,_,_,_⟩) (v:=.pointer (some ⟨X,9,none⟩)) rfl (by kernel_rfl) (by kernel_rfl) (by kernel_rfl) (fun _ _ _ h=>h) (Or.inl ⟨by rfl,fun w' hw'=>?_⟩) (by assumption) ?_
     · clear hHeld
       go_simp
     simp only [Act.put,sIB,sCZ,sCS]
     refine wpAnyH_take (i:=4) (oi:=⟨some 28,_,_,_,_,_⟩) (v:=.int .i64 (g.su:Nat)) rfl (by kernel_rfl) (by kernel_rfl) (by kernel_rfl) (fun _ _ _ h=>h) (Or.inl ⟨by rfl,fun w' hw'=>?_⟩) (by assumption) ?_
     · have c9:=(LBx.at (LBx.keep G5.out hw'.out (by omega))).2.2.1
       clear hHeld
       go_simp
     simp only [Act.put,sIB,sCZ,sCS]
     refine wpAnyH_take (i:=5) (oi:=⟨some 29,_,_,_,_,_⟩) (v:=.pointer (some ⟨X,10,none⟩)) rfl (by kernel_rfl) (by kernel_rfl) (by kernel_rfl) (fun _ _ _ h=>h) (Or.inl ⟨by rfl,fun w' hw'=>?_⟩) (by assumption) ?_
     · clear hHeld
       go_simp
     simp only [Act.put,sIB,sCZ,sCS]
     refine wpAnyH_take (i:=6) (oi:=⟨some 30,_,_,_,_,_⟩) (v:=.int .i64 (g.kp:Nat)) rfl (by kernel_rfl) (by kernel_rfl) (by kernel_rfl) (fun _ _ _ h=>h) (Or.inl ⟨by rfl,fun w' hw'=>?_⟩) (by assumption) ?_
     · have c10:=(LBx.at (LBx.keep G5.out hw'.out (by omega))).2.2.2
       clear hHeld
       go_simp
     simp only [Act.put,sIB,sCZ,sCS]
     refine wpAnyH_ready (rs:=[2]) (by kernel_rfl) (by simp) (AllReadyH.cons rfl (fun K hK=>?_) AllReadyH.nil)
     go_simp
     go_wp2_with fail
     refine (HEND.out _).mono ?_
     rintro e w6 ⟨rfl,hb6⟩
     go_wp2_with fail
     have hc6:Chg (fun k=>k=X+1) W5 w6:=hHeld.out.trans (T:=fun _=>False) (Chg.of_below hb6) fun _ _ h=>h.elim
     have HC6:=hid hc6
     have HZ6:Hid (LBx w6 (X+1) gn0):=hid (z0b (w:=W5.drew) Z5.out hb6)
     refine hK.out _ _ (hid hc6) (fun hHeld2=>?_)
     clear hK K hHeld hb6 hc6
     have hHeld:=hHeld2
     clear hHeld2
     try simp only [Act.put,sIB,sCZ,sCS]
     refine wpAnyH_take (i:=7) (oi:=⟨some 31,_,_,_,_,_⟩) (v:=.agg (Gn.cs ⟨D',none,0,0,fn,g.su,g.kp⟩)) rfl (by kernel_rfl) (by kernel_rfl) (by kernel_rfl) (fun _ _ _ h=>h) (Or.inl ⟨by rfl,fun w' hw'=>held_build_lg ⟨D',none,0,0,fn,g.su,g.kp⟩ rfl rfl rfl rfl rfl⟩) (by assumption) ?_
     simp only [Act.put,sIB,sCZ,sCS]
     have hz6:=HZ6.out
     refine wpAnyH_ready (rs:=[8]) (by kernel_rfl) (by simp) (AllReadyH.cons rfl (fun K hK=>?_) AllReadyH.nil)
     rw [if_pos (by rfl)]
     refine wp_store_row 40 _ _ rfl (X+1) (Gn.cs ⟨D',none,0,0,fn,g.su,g.kp⟩) rfl rfl 40 _ hz6 (by kernel_rfl) rfl (Gn.one _) ?_
     have hc7:Chg (fun k=>k=X+1) W5 (w6.setRow (X+1) (Gn.cs ⟨D',none,0,0,fn,g.su,g.kp⟩)):=HC6.out.trans (Chg.setRow _) fun _ _ h=>h
     have HZ7:=hid (LBx.row hz6 ⟨D',none,0,0,fn,g.su,g.kp⟩)
     have HF:=hid (z6r (Q:=Q) HBW5.out (S:=fun k=>k=X∨k=X+1) HR5.out (hc7.mono (T:=fun k=>k=X∨k=X+1) fun k _ hk=>.inr hk) (by intro k hk;have:=HX.out;omega))
     refine hK.out _ _ (hid hc7) (fun hHeld2=>?_)
     clear hK K hHeld hc7 hz6
     have hHeld:=hHeld2
     clear hHeld2
     try simp only [Act.put,sIB,sCZ,sCS]
     refine wpAnyH_take (i:=9) (oi:=⟨some 3,_,_,_,_,_⟩) (v:=.int .i64 0) rfl (by kernel_rfl) (by kernel_rfl) (by kernel_rfl) (fun _ _ _ h=>h) (Or.inl ⟨by rfl,fun w' hw'=>?_⟩) (by assumption) ?_
     · clear hHeld
       go_simp
     simp only [Act.put,sIB,sCZ,sCS]
     refine wpAnyH_done (by kernel_rfl) ?_ _
     clear hHeld
     go_wp2_with fail
     refine bodyPost_ret (v:=.tuple #[.agg (Gn.cs ⟨D',none,0,0,fn,g.su,g.kp⟩),.int .i64 0]) ?_ rfl ⟨_,rfl,HF.out⟩
     rw [results_cell_tmp rfl]
     simp [asAddr,Result.andThen,run_loadVar_row (P:=Tryz.prog) _ (X+1) 40 40 (Gn.cs ⟨D',none,0,0,fn,g.su,g.kp⟩) (0,0) _ HZ7.out Tryz.underlying40 rfl (by kernel_rfl)]
   · have e2:s.write=s:=by
      unfold LS.write
      rw [if_neg h00,if_neg hx]
     have hD:z9q s.d (.grow (zi s.wb))=s.d:=if_neg hx
     rw [hD] at hwt
     rw [e1,e2]
     obtain⟨er,her⟩:∃ x,s.d.addE (zi s.wb)=x:=⟨_,rfl⟩
     rw [her] at hwt hx ⊢
     have hx1:(er != 0)=true:=by simpa using hx
     clear hwn h00 e1 e2 hE hD her hx hn
     go_enter Tryz.func16,Tryz.ntmps16
     go_upto_region 1 with (fail)
     rw [HW.out,HX.out]
     go_wp2_with ((with_reducible refine z2m H0.out ?_ ?_);rfl)
     refine hwt.mono ?_
     rintro e w4 ⟨D',rfl,hd,hb4⟩
     obtain⟨W5,N,hW5,hN,h50,h5,hb5⟩:=z9k w4 D'
     have hb45:Below W2.heap.size W2 W5:=hb4.trans (hb5.mono hb4.size)
     have HF:=hid (z6r (Q:=Q) (HB.out.trans (hb45.mono HB.out.size)) (g:=g) (s:=s) (S:=fun k=>k=X∨k=X+1) (H2.out.later hb45) ((Chg.setRow (w:=W5) (g:=X+1) (Gn.cs g)).mono (T:=fun k=>k=X∨k=X+1) fun k _ hk=>.inr hk) (by intro k hk;have:=HX.out;omega))
     have HZ:=hid (LBx.row (z0b H1.out hb45:LBx W5 (X+1) gn0) g)
     have HW5:=hid hW5
     have HN:=hid hN
     have H50:=hid h50
     have G5:Hid (LBx W5 X g):=hid (z0b H0.out hb45)
     have Z5:Hid (LBx W5 (X+1) gn0):=hid (z0b H1.out hb45)
     clear hW5 hN h50 h5 hb45 hd hb4 hb5 hwt c7
     go_wp2_with (first | ((try rw [HN.out]);(with_reducible refine z1f D' H50.out ?_ ?_ ?_);rfl;rfl;rw [HW5.out]) | ((with_reducible refine z1m G5.out ?_ ?_);rfl) | ((with_reducible refine z1e g Z5.out ?_ ?_ ?_);rfl;rfl))
     refine bodyPost_ret (v:=.tuple #[.agg g.cs,.int .i64 er]) ?_ rfl ⟨_,rfl,HF.out⟩
     rw [results_cell_tmp rfl]
     simp [asAddr,Result.andThen,run_loadVar_row (P:=Tryz.prog) _ (X+1) 40 40 g.cs (0,0) _ HZ.out Tryz.underlying40 rfl (by kernel_rfl)]
theorem wd_cut (n:Int):(Wd.x ⟨3,0,none,0,0,[],n⟩)=.cut n:=rfl
theorem new_vt (w:World) (cv ct:Array Value):∃ W N,(w.alloc (.cells cv 32)).alloc (.cells ct 35)=W∧w.heap.size=N∧W.heap[N+1]?=some (.cells ct 35 (0,0))∧Below w.heap.size w W∧W.heap.size=N+2:=by
 obtain⟨_,h1,h2⟩:=z2o w cv ct 32 35
 exact⟨_,_,rfl,rfl,h1,h2,by simp⟩
theorem two_dl (w:World) (D:Rn):∃ W2 X,(w.alloc (.cells D.cs 38)).alloc (.cells lgz 40)=W2∧w.heap.size=X∧DBx W2 X D∧LBx W2 (X+1) gn0∧Below w.heap.size w W2∧W2.heap.size=X+2:=by
 obtain⟨h0,h1,h2⟩:=z2o w D.cs lgz 38 40
 exact⟨_,_,rfl,rfl,h0,h1,h2,by simp⟩
theorem rlog_open {D:Rn} {d:DS} {w:World} {Q:Nat→Prop} (h:RdN w Q D d) (hQ:∀ k,w.heap.size≤k→Q k) (hbig:d.tot≤1000000) (hL:d.L.length≤1000) (hM:d.M≤1048576) (x y:Int):Calls Tryz.prog 14 #[.agg D.cs,.int .i64 x,.int .i64 y] w (q2f w Q (LS.start d x y)):=by
 obtain⟨W2,X,hW,hX,h0,h1,hb,hs⟩:=two_dl w D
 have h2:RdN W2 (fun k=>Q k∧¬ (k=X∨k=X+1)) D d:=(h.mono (R:=fun k=>Q k∧¬ (k=X∨k=X+1)) fun k hk hl=>⟨hk,by omega⟩).later hb
 have hQ2:∀ k,W2.heap.size≤k→Q k∧¬ (k=X∨k=X+1):=fun k hk=>⟨hQ k (by omega),by omega⟩
 have hse:=(rdn_seen h2 hQ2 hbig).mono fun e w' h=>RdDo.rnd0 h
 have hsz:d.sT.len d.z≤d.tot:=d.sT_len (by have:=h.rd.z;omega)
 have hlo:d.lo=d.sT.f*d.z:=rfl
 have hhi:d.hi=d.sT.f*d.z+d.sT.B.length:=rfl
 have HST:Hid (LS.start d x y=⟨if kn x d.lo d.hi<d.hi then d.add (.cut (kn x d.lo d.hi:Nat)) else d,[],kn x d.lo d.hi,kn x d.lo d.hi,kn y d.lo (kn x d.lo d.hi)⟩):=hid rfl
 have HWT:=hid (fun (w':World) (a:Nat) (hb':Below W2.heap.size W2 w')=>z6s (h2.later hb') (fun k hk=>hQ2 k (Nat.le_trans hb'.size hk)) ⟨3,0,none,0,0,[],(a:Nat)⟩ ⟨SlG.empty _,(fun h=>absurd h (by simp)),(by show 3≤3;omega)⟩ hbig hL hM)
 have HW:=hid hW
 have HX:=hid hX
 have H0:=hid h0
 have H1:=hid h1
 have H2:=hid h2
 have HB:=hid hb
 have HS:=hid hs
 have HSZ:Hid (d.sT.f*d.z+d.sT.B.length≤1000000):=hid (Nat.le_trans hsz hbig)
 have HLO:=hid hlo
 have HHI:=hid hhi
 clear hW hX h0 h1 h2 hb h hs hsz hlo hhi hQ2
 go_enter Tryz.func14,Tryz.ntmps14
 go_upto_region 1 with (fail)
 rw [HW.out,HX.out]
 go_wp2_with ((with_reducible refine z2b H0.out ?_ ?_);rfl)
 refine hse.mono ?_
 rintro e w3 ⟨p',c',tp',tc',n5,F5,rfl,H5⟩
 obtain⟨W4,N,hW4,hN,hT,hb4,hs4⟩:=new_vt w3 #[.slice p' d.V.length c',.int .i64 (d.s:Nat)] #[.slice tp' n5 tc',.int .i64 (F5:Nat),.int .i64 (d.z:Nat)]
 have hn5:=H5.out.2.2.2.1
 have hF5:=H5.out.2.2.2.2.1
 have hb3:=H5.out.2.2.2.2.2
 have hb24:=hb3.trans (hb4.mono hb3.size)
 have HN2:Hid (X+2≤N):=hid (by have:=hb3.size;have:=HS.out;omega)
 have HB4:=hid hb24
 have HT:=hid hT
 have HW4:=hid hW4
 have HN:=hid hN
 have HSM:Hid (F5+n5≤1000000):=hid (by rw [← hn5,← hF5];exact HSZ.out)
 have HLO5:Hid (d.lo=F5):=hid (HLO.out.trans hF5)
 have HHI5:Hid (d.hi=F5+n5):=hid (HHI.out.trans (by rw [hF5,hn5]))
 have hen:=fun w'=>z5s tp' n5 tc' F5 d.z w' (by have:=HSM.out;omega)
 unfold rv at hen
 have HEN:=hid hen
 have hst:=HST.out
 rw [HLO5.out,HHI5.out] at hst
 obtain⟨hi,hhi⟩:∃ hi,F5+n5=hi:=⟨_,rfl⟩
 rw [hhi] at hst HEN
 have hFh:F5≤hi:=by omega
 obtain⟨a,ha⟩:∃ a,kn x F5 hi=a:=⟨_,rfl⟩
 have haL:F5≤a:=by rw [← ha];exact kn_ge x hFh
 have haH:a≤hi:=by rw [← ha];exact q2i x F5 hi
 have hbx:=fun w'=>z6j x F5 hi hFh w'
 rw [ha] at hst hbx
 obtain⟨kk,hkk⟩:∃ k,kn y F5 a=k:=⟨_,rfl⟩
 have hby:=fun w'=>z6j y F5 a haL w'
 rw [hkk] at hst hby
 have HBX:=hid hbx
 have HBY:=hid hby
 have HSTT:=hid hst
 have hsm:=HSM.out
 clear hW4 hN hT hb4 hs4 hn5 hF5 hb3 hb24 hen hst HST HSZ HLO HHI HLO5 HHI5 hse H5 hbx hby ha hkk HSM
 generalize d.V.length=nV at *
 generalize d.s=sz at *
 generalize d.z=zz at *
 go_wp2_with fail
 rw [HW4.out,HN.out]
 have hbd:Hid (Below W4.heap.size W4 W4.drew):=hid (Below.refl _ _).drew
 refine wp_region_held_drew (S:=fun w'=>Hid (Below W4.heap.size W4 w')) (by kernel_rfl) hbd (fun hHeld=>?_)
 clear hbd
 refine wpAnyH_take (i:=0) (oi:=⟨some 17,_,_,_,_,_⟩) (v:=.int .i64 x) rfl (by kernel_rfl) (by kernel_rfl) (by kernel_rfl) (fun _ _ _ h=>h) (Or.inl ⟨by rfl,fun w' hw'=>?_⟩) (by assumption) ?_
 · clear hHeld
   go_simp
 simp only [Act.put,sIB,sCZ,sCS]
 refine wpAnyH_take (i:=1) (oi:=⟨some 18,_,_,_,_,_⟩) (v:=.pointer (some ⟨N+1,1,none⟩)) rfl (by kernel_rfl) (by kernel_rfl) (by kernel_rfl) (fun _ _ _ h=>h) (Or.inl ⟨by rfl,fun w' hw'=>?_⟩) (by assumption) ?_
 · clear hHeld
   go_simp
 simp only [Act.put,sIB,sCZ,sCS]
 refine wpAnyH_take (i:=2) (oi:=⟨some 19,_,_,_,_,_⟩) (v:=.int .i64 (F5:Nat)) rfl (by kernel_rfl) (by kernel_rfl) (by kernel_rfl) (fun _ _ _ h=>h) (Or.inl ⟨by rfl,fun w' hw'=>?_⟩) (by assumption) ?_
 · have x1:=z0a (j:=1) (z0b HT.out hw'.out) (v:=.int .i64 (F5:Nat)) rfl
   clear hHeld
   go_simp
 simp only [Act.put,sIB,sCZ,sCS]
 refine wpAnyH_take (i:=3) (oi:=⟨some 20,_,_,_,_,_⟩) (v:=.agg #[.slice tp' n5 tc',.int .i64 (F5:Nat),.int .i64 (zz:Nat)]) rfl (by kernel_rfl) (by kernel_rfl) (by kernel_rfl) (fun _ _ _ h=>h) (Or.inl ⟨by rfl,fun w' hw'=>?_⟩) (by assumption) ?_
 · have x0:=z0a (j:=0) (z0b HT.out hw'.out) (v:=.slice tp' n5 tc') rfl
   have x1:=z0a (j:=1) (z0b HT.out hw'.out) (v:=.int .i64 (F5:Nat)) rfl
   have x2:=z0a (j:=2) (z0b HT.out hw'.out) (v:=.int .i64 (zz:Nat)) rfl
   clear hHeld
   go_simp
 simp only [Act.put,sIB,sCZ,sCS]
 refine wpAnyH_ready (rs:=[4]) (by kernel_rfl) (by simp) (AllReadyH.cons rfl (fun K hK=>?_) AllReadyH.nil)
 go_simp
 go_wp2_with fail
 refine (HEN.out _).mono ?_
 rintro e w5 ⟨rfl,hb5⟩
 go_wp2_with fail
 have HB5:Hid (Below W4.heap.size W4 w5):=hid (hHeld.out.trans (hb5.mono hHeld.out.size))
 refine hK.out _ _ HB5 (fun hHeld2=>?_)
 clear hK K hHeld hb5
 have hHeld:=hHeld2
 clear hHeld2
 try simp only [Act.put,sIB,sCZ,sCS]
 refine wpAnyH_ready (rs:=[5]) (by kernel_rfl) (by simp) (AllReadyH.cons rfl (fun K hK=>?_) AllReadyH.nil)
 go_simp
 go_wp2_with fail
 refine (HBX.out _).mono ?_
 rintro e w6 ⟨rfl,rfl⟩
 go_wp2_with fail
 refine hK.out _ _ HB5 (fun hHeld2=>?_)
 clear hK K hHeld
 have hHeld:=hHeld2
 clear hHeld2
 try simp only [Act.put,sIB,sCZ,sCS]
 refine wpAnyH_take (i:=6) (oi:=⟨some 9,_,_,_,_,_⟩) (v:=.int .i64 (a:Nat)) rfl (by kernel_rfl) (by kernel_rfl) (by kernel_rfl) (fun _ _ _ h=>h) (Or.inl ⟨by rfl,fun w' hw'=>?_⟩) (by assumption) ?_
 · clear hHeld
   go_simp
 simp only [Act.put,sIB,sCZ,sCS]
 refine wpAnyH_done (by kernel_rfl) ?_ _
 clear hHeld
 have hT6:=z0b HT.out HB5.out
 have x0:=z0a (j:=0) hT6 (v:=.slice tp' n5 tc') rfl
 have x1:=z0a (j:=1) hT6 (v:=.int .i64 (F5:Nat)) rfl
 have x2:=z0a (j:=2) hT6 (v:=.int .i64 (zz:Nat)) rfl
 clear hT6
 go_wp2_with fail
 refine (HEN.out _).mono ?_
 rintro e w7 ⟨rfl,hb7⟩
 have HB7:Hid (Below W4.heap.size W4 w7):=hid (HB5.out.trans (hb7.mono HB5.out.size))
 have HT7:Hid (w7.heap[N+1]?=some (.cells #[.slice tp' n5 tc',.int .i64 (F5:Nat),.int .i64 (zz:Nat)] 35 (0,0))):=hid (z0b HT.out HB7.out)
 have HB27:=hid (HB4.out.trans (HB7.out.mono HB4.out.size))
 have G7:Hid (DBx w7 X D):=hid (z0b H0.out HB27.out)
 have Z7:Hid (LBx w7 (X+1) gn0):=hid (z0b H1.out HB27.out)
 clear hb7 x0 x1 x2
 by_cases hlt:a<hi
 · have hlt':(a:Int)<(hi:Int):=by omega
   have hwt:=HWT.out w7 a HB27.out
   rw [wd_cut] at hwt
   go_wp2_with ((with_reducible refine z2b G7.out ?_ ?_);rfl)
   refine hwt.mono ?_
   rintro e w8 ⟨D',rfl,hd,hb8⟩
   obtain⟨W9,N2,hW9,hN9,h90,h9,hb9⟩:=z9k w8 D'
   have hb79:Below w7.heap.size w7 W9:=hb8.trans (hb9.mono hb8.size)
   have HB29:=hid (HB27.out.trans (hb79.mono HB27.out.size))
   have G9:Hid (DBx W9 X D):=hid (z0b G7.out hb79)
   have Z9:LBx W9 (X+1) gn0:=z0b Z7.out hb79
   have hT9:=z0b HT7.out hb79
   have hXl:X<W9.heap.size:=z0k G9.out
   have HD9:RdN W9 (fun k=>Q k∧¬ (k=X∨k=X+1)) D' (d.add (.cut (a:Nat))):=hd.later hb9
   obtain⟨Wa,hWa,ga,za,ta,ra,ca⟩:∃ Wa,W9.setRow X D'.cs=Wa∧DBx Wa X D'∧LBx Wa (X+1) gn0∧Wa.heap[N+1]?=some (.cells #[.slice tp' n5 tc',.int .i64 (F5:Nat),.int .i64 (zz:Nat)] 35 (0,0))∧RdN Wa (fun k=>Q k∧¬ (k=X∨k=X+1)) D' (d.add (.cut (a:Nat)))∧Below w.heap.size w Wa :=
    ⟨_,rfl,setRow_heap _ _ _ _ _ _ G9.out,LBx.keep Z9 (Chg.setRow _) (by omega),((Chg.setRow _).block (N+1) (z0k hT9) (by have:=HN2.out;omega)).trans hT9,HD9.keep (Chg.setRow _) (fun k hk hs=>hk.2 (.inl hs)),(Chg.setRow _).below (HB.out.trans (HB29.out.mono HB.out.size)) (Nat.le_trans HB.out.size HB29.out.size) fun k hk=>by have:=HX.out;omega⟩
   have HW9:=hid hW9
   have HN9:=hid hN9
   have H90:=hid h90
   have H9:=hid h9
   have HWa:=hid hWa
   have GA:=hid ga
   have ZA:=hid za
   have TA:=hid ta
   have RA:=hid ra
   have BA:=hid ca
   have HSU:Hid (LS.start d x y=⟨d.add (.cut (a:Nat)),[],a,a,kk⟩):=hid (by rw [HSTT.out,if_pos hlt])
   clear hW9 hN9 h90 h9 hb79 Z9 hT9 hXl HD9 hWa ga za ta ra ca hd hb8 hb9 hwt hlt
   go_wp2_with (first | ((try rw [HN9.out]);(with_reducible refine z1f D' H90.out ?_ ?_ ?_);rfl;rfl;rw [HW9.out]) | ((with_reducible refine z2b H9.out ?_ ?_);rfl) | ((with_reducible refine z1f D' G9.out ?_ ?_ ?_);rfl;rfl;rw [HWa.out]))
   have hbd:Hid (Chg (fun k=>k=X+1) Wa Wa.drew):=hid (Chg.of_below (Below.refl _ _).drew)
   refine wp_region_held_drew (S:=fun w'=>Hid (Chg (fun k=>k=X+1) Wa w')) (by kernel_rfl) hbd (fun hHeld=>?_)
   clear hbd
   refine wpAnyH_take (i:=0) (oi:=⟨some 35,_,_,_,_,_⟩) (v:=.agg D'.cs) rfl (by kernel_rfl) (by kernel_rfl) (by kernel_rfl) (fun _ _ _ h=>h) (Or.inl ⟨by rfl,fun w' hw'=>z4r rfl ((hw'.out.block X (z0k GA.out) (by omega)).trans GA.out)⟩) (by assumption) ?_
   simp only [Act.put,sIB,sCZ,sCS]
   refine wpAnyH_take (i:=1) (oi:=⟨some 36,_,_,_,_,_⟩) (v:=.int .i64 (a:Nat)) rfl (by kernel_rfl) (by kernel_rfl) (by kernel_rfl) (fun _ _ _ h=>h) (Or.inl ⟨by rfl,fun w' hw'=>?_⟩) (by assumption) ?_
   · clear hHeld
     go_simp
   simp only [Act.put,sIB,sCZ,sCS]
   refine wpAnyH_take (i:=2) (oi:=⟨some 37,_,_,_,_,_⟩) (v:=.int .i64 (a:Nat)) rfl (by kernel_rfl) (by kernel_rfl) (by kernel_rfl) (fun _ _ _ h=>h) (Or.inl ⟨by rfl,fun w' hw'=>?_⟩) (by assumption) ?_
   · clear hHeld
     go_simp
   simp only [Act.put,sIB,sCZ,sCS]
   refine wpAnyH_take (i:=3) (oi:=⟨some 38,_,_,_,_,_⟩) (v:=.int .i64 y) rfl (by kernel_rfl) (by kernel_rfl) (by kernel_rfl) (fun _ _ _ h=>h) (Or.inl ⟨by rfl,fun w' hw'=>?_⟩) (by assumption) ?_
   · clear hHeld
     go_simp
   simp only [Act.put,sIB,sCZ,sCS]
   refine wpAnyH_take (i:=4) (oi:=⟨some 39,_,_,_,_,_⟩) (v:=.pointer (some ⟨N+1,1,none⟩)) rfl (by kernel_rfl) (by kernel_rfl) (by kernel_rfl) (fun _ _ _ h=>h) (Or.inl ⟨by rfl,fun w' hw'=>?_⟩) (by assumption) ?_
   · clear hHeld
     go_simp
   simp only [Act.put,sIB,sCZ,sCS]
   refine wpAnyH_take (i:=5) (oi:=⟨some 40,_,_,_,_,_⟩) (v:=.int .i64 (F5:Nat)) rfl (by kernel_rfl) (by kernel_rfl) (by kernel_rfl) (fun _ _ _ h=>h) (Or.inl ⟨by rfl,fun w' hw'=>?_⟩) (by assumption) ?_
   · have x1:=z0a (j:=1) ((hw'.out.block (N+1) (z0k TA.out) (by have:=HN2.out;omega)).trans TA.out) (v:=.int .i64 (F5:Nat)) rfl
     clear hHeld
     go_simp
   simp only [Act.put,sIB,sCZ,sCS]
   refine wpAnyH_take (i:=6) (oi:=⟨some 41,_,_,_,_,_⟩) (v:=.int .i64 (a:Nat)) rfl (by kernel_rfl) (by kernel_rfl) (by kernel_rfl) (fun _ _ _ h=>h) (Or.inl ⟨by rfl,fun w' hw'=>?_⟩) (by assumption) ?_
   · clear hHeld
     go_simp
   simp only [Act.put,sIB,sCZ,sCS]
   refine wpAnyH_ready (rs:=[7]) (by kernel_rfl) (by simp) (AllReadyH.cons rfl (fun K hK=>?_) AllReadyH.nil)
   go_simp
   go_wp2_with fail
   refine (HBY.out _).mono ?_
   rintro e w6 ⟨rfl,rfl⟩
   go_wp2_with fail
   refine hK.out _ _ hHeld (fun hHeld2=>?_)
   clear hK K hHeld
   have hHeld:=hHeld2
   clear hHeld2
   try simp only [Act.put,sIB,sCZ,sCS]
   refine wpAnyH_take (i:=8) (oi:=⟨some 43,_,_,_,_,_⟩) (v:=.agg (Gn.cs ⟨D',none,0,0,a,a,kk⟩)) rfl (by kernel_rfl) (by kernel_rfl) (by kernel_rfl) (fun _ _ _ h=>h) (Or.inl ⟨by rfl,fun w' hw'=>held_build_l4 ⟨D',none,0,0,a,a,kk⟩ ⟨rfl,rfl,rfl⟩ rfl rfl rfl rfl⟩) (by assumption) ?_
   simp only [Act.put,sIB,sCZ,sCS]
   have hz6:LBx Wa.drew (X+1) gn0:=ZA.out
   refine wpAnyH_ready (rs:=[9]) (by kernel_rfl) (by simp) (AllReadyH.cons rfl (fun K hK=>?_) AllReadyH.nil)
   rw [if_pos (by rfl)]
   refine wp_store_row 40 _ _ rfl (X+1) (Gn.cs ⟨D',none,0,0,a,a,kk⟩) rfl rfl 40 _ hz6 (by kernel_rfl) rfl (Gn.one _) ?_
   have hc7:Chg (fun k=>k=X+1) Wa (Wa.drew.setRow (X+1) (Gn.cs ⟨D',none,0,0,a,a,kk⟩)):=(Chg.of_below (S:=fun k=>k=X+1) (Below.refl _ _).drew).trans (Chg.setRow _) fun _ _ h=>h
   have HZ7:=hid (LBx.row hz6 ⟨D',none,0,0,a,a,kk⟩)
   have HF:=hid (z6r (Q:=Q) BA.out (g:=⟨D',none,0,0,a,a,kk⟩) (s:=⟨d.add (.cut (a:Nat)),[],a,a,kk⟩) (S:=fun k=>k=X∨k=X+1) ⟨RA.out,SlG.empty _,(fun h=>absurd h (by simp)),(fun x h=>by cases h),rfl,rfl,rfl⟩ (hc7.mono (T:=fun k=>k=X∨k=X+1) fun k _ hk=>.inr hk) (by intro k hk;have:=HX.out;omega))
   refine hK.out _ _ (hid hc7) (fun hHeld2=>?_)
   clear hK K hHeld hc7 hz6
   have hHeld:=hHeld2
   clear hHeld2
   try simp only [Act.put,sIB,sCZ,sCS]
   refine wpAnyH_done (by kernel_rfl) ?_ _
   clear hHeld
   go_wp2_with fail
   refine bodyPost_ret (v:=.agg (Gn.cs ⟨D',none,0,0,a,a,kk⟩)) ?_ rfl ⟨_,rfl,by rw [HSU.out];exact HF.out⟩
   exact results_cell_row rfl _ _ (X+1) 40 _ (0,0) _ rfl HZ7.out Tryz.underlying40 rfl (by kernel_rfl)
 · have hlt':¬ (a:Int)<(hi:Int):=by omega
   have RA:Hid (RdN w7 (fun k=>Q k∧¬ (k=X∨k=X+1)) D d):=hid (H2.out.later HB27.out)
   have BA:Hid (Below w.heap.size w w7):=hid (HB.out.trans (HB27.out.mono HB.out.size))
   have HSU:Hid (LS.start d x y=⟨d,[],a,a,kk⟩):=hid (by rw [HSTT.out,if_neg hlt])
   clear hlt
   go_wp2_with fail
   have hbd:Hid (Chg (fun k=>k=X+1) w7 w7.drew):=hid (Chg.of_below (Below.refl _ _).drew)
   refine wp_region_held_drew (S:=fun w'=>Hid (Chg (fun k=>k=X+1) w7 w')) (by kernel_rfl) hbd (fun hHeld=>?_)
   clear hbd
   refine wpAnyH_take (i:=0) (oi:=⟨some 35,_,_,_,_,_⟩) (v:=.agg D.cs) rfl (by kernel_rfl) (by kernel_rfl) (by kernel_rfl) (fun _ _ _ h=>h) (Or.inl ⟨by rfl,fun w' hw'=>z4r rfl ((hw'.out.block X (z0k G7.out) (by omega)).trans G7.out)⟩) (by assumption) ?_
   simp only [Act.put,sIB,sCZ,sCS]
   refine wpAnyH_take (i:=1) (oi:=⟨some 36,_,_,_,_,_⟩) (v:=.int .i64 (a:Nat)) rfl (by kernel_rfl) (by kernel_rfl) (by kernel_rfl) (fun _ _ _ h=>h) (Or.inl ⟨by rfl,fun w' hw'=>?_⟩) (by assumption) ?_
   · clear hHeld
     go_simp
   simp only [Act.put,sIB,sCZ,sCS]
   refine wpAnyH_take (i:=2) (oi:=⟨some 37,_,_,_,_,_⟩) (v:=.int .i64 (a:Nat)) rfl (by kernel_rfl) (by kernel_rfl) (by kernel_rfl) (fun _ _ _ h=>h) (Or.inl ⟨by rfl,fun w' hw'=>?_⟩) (by assumption) ?_
   · clear hHeld
     go_simp
   simp only [Act.put,sIB,sCZ,sCS]
   refine wpAnyH_take (i:=3) (oi:=⟨some 38,_,_,_,_,_⟩) (v:=.int .i64 y) rfl (by kernel_rfl) (by kernel_rfl) (by kernel_rfl) (fun _ _ _ h=>h) (Or.inl ⟨by rfl,fun w' hw'=>?_⟩) (by assumption) ?_
   · clear hHeld
     go_simp
   simp only [Act.put,sIB,sCZ,sCS]
   refine wpAnyH_take (i:=4) (oi:=⟨some 39,_,_,_,_,_⟩) (v:=.pointer (some ⟨N+1,1,none⟩)) rfl (by kernel_rfl) (by kernel_rfl) (by kernel_rfl) (fun _ _ _ h=>h) (Or.inl ⟨by rfl,fun w' hw'=>?_⟩) (by assumption) ?_
   · clear hHeld
     go_simp
   simp only [Act.put,sIB,sCZ,sCS]
   refine wpAnyH_take (i:=5) (oi:=⟨some 40,_,_,_,_,_⟩) (v:=.int .i64 (F5:Nat)) rfl (by kernel_rfl) (by kernel_rfl) (by kernel_rfl) (fun _ _ _ h=>h) (Or.inl ⟨by rfl,fun w' hw'=>?_⟩) (by assumption) ?_
   · have x1:=z0a (j:=1) ((hw'.out.block (N+1) (z0k HT7.out) (by have:=HN2.out;omega)).trans HT7.out) (v:=.int .i64 (F5:Nat)) rfl
     clear hHeld
     go_simp
   simp only [Act.put,sIB,sCZ,sCS]
   refine wpAnyH_take (i:=6) (oi:=⟨some 41,_,_,_,_,_⟩) (v:=.int .i64 (a:Nat)) rfl (by kernel_rfl) (by kernel_rfl) (by kernel_rfl) (fun _ _ _ h=>h) (Or.inl ⟨by rfl,fun w' hw'=>?_⟩) (by assumption) ?_
   · clear hHeld
     go_simp
   simp only [Act.put,sIB,sCZ,sCS]
   refine wpAnyH_ready (rs:=[7]) (by kernel_rfl) (by simp) (AllReadyH.cons rfl (fun K hK=>?_) AllReadyH.nil)
   go_simp
   go_wp2_with fail
   refine (HBY.out _).mono ?_
   rintro e w6 ⟨rfl,rfl⟩
   go_wp2_with fail
   refine hK.out _ _ hHeld (fun hHeld2=>?_)
   clear hK K hHeld
   have hHeld:=hHeld2
   clear hHeld2
   try simp only [Act.put,sIB,sCZ,sCS]
   refine wpAnyH_take (i:=8) (oi:=⟨some 43,_,_,_,_,_⟩) (v:=.agg (Gn.cs ⟨D,none,0,0,a,a,kk⟩)) rfl (by kernel_rfl) (by kernel_rfl) (by kernel_rfl) (fun _ _ _ h=>h) (Or.inl ⟨by rfl,fun w' hw'=>held_build_l4 ⟨D,none,0,0,a,a,kk⟩ ⟨rfl,rfl,rfl⟩ rfl rfl rfl rfl⟩) (by assumption) ?_
   simp only [Act.put,sIB,sCZ,sCS]
   have hz6:LBx w7.drew (X+1) gn0:=Z7.out
   refine wpAnyH_ready (rs:=[9]) (by kernel_rfl) (by simp) (AllReadyH.cons rfl (fun K hK=>?_) AllReadyH.nil)
   rw [if_pos (by rfl)]
   refine wp_store_row 40 _ _ rfl (X+1) (Gn.cs ⟨D,none,0,0,a,a,kk⟩) rfl rfl 40 _ hz6 (by kernel_rfl) rfl (Gn.one _) ?_
   have hc7:Chg (fun k=>k=X+1) w7 (w7.drew.setRow (X+1) (Gn.cs ⟨D,none,0,0,a,a,kk⟩)):=(Chg.of_below (S:=fun k=>k=X+1) (Below.refl _ _).drew).trans (Chg.setRow _) fun _ _ h=>h
   have HZ7:=hid (LBx.row hz6 ⟨D,none,0,0,a,a,kk⟩)
   have HF:=hid (z6r (Q:=Q) BA.out (g:=⟨D,none,0,0,a,a,kk⟩) (s:=⟨d,[],a,a,kk⟩) (S:=fun k=>k=X∨k=X+1) ⟨RA.out,SlG.empty _,(fun h=>absurd h (by simp)),(fun x h=>by cases h),rfl,rfl,rfl⟩ (hc7.mono (T:=fun k=>k=X∨k=X+1) fun k _ hk=>.inr hk) (by intro k hk;have:=HX.out;omega))
   refine hK.out _ _ (hid hc7) (fun hHeld2=>?_)
   clear hK K hHeld hc7 hz6
   have hHeld:=hHeld2
   clear hHeld2
   try simp only [Act.put,sIB,sCZ,sCS]
   refine wpAnyH_done (by kernel_rfl) ?_ _
   clear hHeld
   go_wp2_with fail
   refine bodyPost_ret (v:=.agg (Gn.cs ⟨D,none,0,0,a,a,kk⟩)) ?_ rfl ⟨_,rfl,by rw [HSU.out];exact HF.out⟩
   exact results_cell_row rfl _ _ (X+1) 40 _ (0,0) _ rfl HZ7.out Tryz.underlying40 rfl (by kernel_rfl)
theorem z3v {W0 w:World} {f:FuncId} {args:Array Value} {v:Value} (h:∀ w',Below w.heap.size w w'→Calls Tryz.prog f args w' fun e w''=>e=.returned v∧Below w'.heap.size w' w'') (hb:Below w.heap.size w W0):∀ w',Below W0.heap.size W0 w'→Calls Tryz.prog f args w' fun e w''=>e=.returned v∧Below W0.heap.size W0 w'':=fun w' hb' =>
 (h w' (hb.trans (hb'.mono hb.size))).mono fun e w'' ⟨he,h2⟩=>⟨he,hb'.trans (h2.mono hb'.size)⟩
theorem z4x {w:World} {col:Nat→Nat} {B G:Nat} {s:LS} (h:Lg w col B G s) {Q:Nat→Prop} {g:Gn} (hr:RlN w Q g s) (hbig:s.d.tot≤1000000) (hf:s.fin≤1000000) (hk:s.kp≤s.fin) :
 Calls Tryz.prog 24 #[.pointer (some ⟨B,0,none⟩),.pointer (some ⟨G,0,none⟩),.agg g.cs] w fun e w'=>e=.returned (.bool true)∧Below w.heap.size w w':=by
 obtain⟨W1,hW1,hb1⟩:∃ W1,w.alloc (.cells g.cs 40)=W1∧Below w.heap.size w W1:=⟨_,rfl,(Below.refl _ _).alloc (Nat.le_refl _) _⟩
 obtain⟨X,hX⟩:∃ X,w.heap.size=X:=⟨_,rfl⟩
 have hl1:LBx W1 X g:=by
  rw [← hW1,← hX]
  exact z0e _ _
 have hse:=(rdn_seen ((hr.rd.mono (R:=fun _=>True) fun _ _ _=>trivial).later hb1) (fun _ _=>trivial) hbig).mono fun e w' h=>RdDo.rnd0 h
 have hz:=hr.rd.rd.z
 have hlen:s.d.sT.len s.d.z≤1000000:=Nat.le_trans (s.d.sT_len (by omega)) hbig
 have hlen2:s.d.sT.f*s.d.z+s.d.sT.B.length≤1000000:=hlen
 have hby0:z8e s.d.z s.d.sT 0=s.d.sT.B:=by
  have:q1n s.d.z s.d.sT 0=0:=by unfold q1n;omega
  unfold z8e
  rw [this,List.drop_zero]
 obtain⟨sb,hsb⟩:∃ sb,strOfNums s.d.sT.B=sb:=⟨_,rfl⟩
 have e1:g.wr+g.wn=s.fin:=by rw [hr.wr,← hr.wn];rfl
 obtain⟨us,hus⟩:∃ u,s.fin-s.kp=u:=⟨_,rfl⟩
 have hu2:(s.fin:Int)-(s.kp:Int)=(us:Int):=by omega
 have hu3:IntKind.i64.wrap (us:Int)=(us:Int):=by rw [IntKind.wrap_i64];omega
 have cEnd:∀ w',Below w.heap.size w w'→Calls Tryz.prog 36 #[.pointer (some ⟨G,0,none⟩)] w' fun e w''=>e=.returned (.int .i64 (s.fin:Nat))∧Below w'.heap.size w' w'':=fun w' hb=>z8s (h.later hb) (by omega)
 have cWr:∀ w',Below w.heap.size w w'→Calls Tryz.prog 41 #[.pointer (some ⟨G,0,none⟩)] w' fun e w''=>e=.returned (.int .i64 (s.wr:Nat))∧Below w'.heap.size w' w'':=fun w' hb=>z6b (h.later hb)
 have cSu:∀ w',Below w.heap.size w w'→Calls Tryz.prog 37 #[.pointer (some ⟨G,0,none⟩)] w' fun e w''=>e=.returned (.int .i64 (s.su:Nat))∧Below w'.heap.size w' w'':=fun w' hb=>z9r (h.later hb)
 have cKp:∀ w',Below w.heap.size w w'→Calls Tryz.prog 42 #[.pointer (some ⟨G,0,none⟩)] w' fun e w''=>e=.returned (.int .i64 (s.kp:Nat))∧Below w'.heap.size w' w'':=fun w' hb=>wal_keep (h.later hb)
 have cUs:∀ w',Below w.heap.size w w'→Calls Tryz.prog 43 #[.pointer (some ⟨G,0,none⟩)] w' fun e w''=>e=.returned (.int .i64 ((s.fin-s.kp:Nat):Int))∧Below w'.heap.size w' w'':=fun w' hb=>wal_used (h.later hb) (by omega) hk
 have cFi:∀ w',Below w.heap.size w w'→Calls Tryz.prog 57 #[.pointer (some ⟨B,0,none⟩)] w' fun e w''=>e=.returned (.int .i64 (s.d.sT.f*s.d.z:Nat))∧Below w'.heap.size w' w'':=fun w' hb=>z7z (h.later hb).dk
 have cDe:∀ w',Below w.heap.size w w'→Calls Tryz.prog 39 #[.pointer (some ⟨B,0,none⟩)] w' fun e w''=>e=.returned (.int .i64 (s.d.sT.f*s.d.z+s.d.sT.B.length:Nat))∧Below w'.heap.size w' w'':=fun w' hb=>q0m (h.later hb).dk
 have cPe:∀ w',Below w.heap.size w w'→Calls Tryz.prog 67 #[.pointer (some ⟨B,0,none⟩)] w' fun e w''=>e=.returned (.int .i64 (g.D.ln:Nat))∧w''=w':=fun w' hb=>by
  rw [hr.rd.ln]
  exact disk_pending (h.later hb).dk
 have cBy:∀ w',Below w.heap.size w w'→Calls Tryz.prog 34 #[.pointer (some ⟨B,0,none⟩),.int .i64 0] w' fun e w''=>∃ p' n' c',e=.returned (.slice p' n' c')∧(∀ w3,Below w''.heap.size w'' w3→(convert 33 9 (.slice p' n' c')).run Tryz.prog w3=.ok (.string sb) w3)∧Below w'.heap.size w' w'':=fun w' hb=>(disk_bytes (h.later hb).dk hlen 0).mono fun e w'' hh=>by
  obtain⟨p',c',he,hbl,hbw,_⟩:=hh
  rw [hby0] at he hbl
  exact⟨p',_,c',he,fun w3 h3=>by rw [← hsb];exact conv_bl (SlG.later hbl h3),hbw⟩
 have rEnd:∀ w',Below w.heap.size w w'→Calls Tryz.prog 64 #[.agg g.cs] w' fun e w''=>e=.returned (.int .i64 (s.fin:Nat))∧Below w'.heap.size w' w'':=fun w' _=>by
  have:=z9y g w' (by omega)
  rw [e1] at this
  exact this
 rw [← hr.wr] at cWr
 rw [← hr.su] at cSu
 rw [← hr.kp] at cKp hu2
 rw [hus] at cUs
 have HW1:=hid hW1
 have HX:=hid hX
 have HL1:=hid hl1
 have HB1:=hid hb1
 have HSB:=hid hsb
 have HC:Hid (∀ W0,Below w.heap.size w W0→(∀ w',Below W0.heap.size W0 w'→Calls Tryz.prog 36 #[.pointer (some ⟨G,0,none⟩)] w' fun e w''=>e=.returned (.int .i64 (s.fin:Nat))∧Below W0.heap.size W0 w'')∧(∀ w',Below W0.heap.size W0 w'→Calls Tryz.prog 41 #[.pointer (some ⟨G,0,none⟩)] w' fun e w''=>e=.returned (.int .i64 (g.wr:Nat))∧Below W0.heap.size W0 w'')∧(∀ w',Below W0.heap.size W0 w'→Calls Tryz.prog 37 #[.pointer (some ⟨G,0,none⟩)] w' fun e w''=>e=.returned (.int .i64 (g.su:Nat))∧Below W0.heap.size W0 w'')∧(∀ w',Below W0.heap.size W0 w'→Calls Tryz.prog 42 #[.pointer (some ⟨G,0,none⟩)] w' fun e w''=>e=.returned (.int .i64 (g.kp:Nat))∧Below W0.heap.size W0 w'')∧(∀ w',Below W0.heap.size W0 w'→Calls Tryz.prog 43 #[.pointer (some ⟨G,0,none⟩)] w' fun e w''=>e=.returned (.int .i64 (us:Nat))∧Below W0.heap.size W0 w'')∧(∀ w',Below W0.heap.size W0 w'→Calls Tryz.prog 64 #[.agg g.cs] w' fun e w''=>e=.returned (.int .i64 (s.fin:Nat))∧Below W0.heap.size W0 w'')):=hid fun W0 hb=>⟨z3v cEnd hb,z3v cWr hb,z3v cSu hb,z3v cKp hb,z3v cUs hb,z3v rEnd hb⟩
 have HCF:=hid cFi
 have HCD:=hid cDe
 have HCP:=hid cPe
 have HCB:=hid cBy
 have HLE:=hid hlen2
 clear hW1 hb1 hX hl1 h hbig hf hlen hby0 e1 hus hsb cEnd cWr cSu cKp cUs cFi cDe cPe cBy rEnd hlen2 hz
 generalize hfn:s.fin=fn at *
 go_enter Tryz.func24,Tryz.ntmps24
 go_upto_region 1 with (fail)
 rw [HW1.out,HX.out]
 go_wp2_with ((with_reducible refine z2m HL1.out ?_ ?_);rfl)
 refine hse.mono ?_
 rintro e w3 ⟨p',c',tp',tc',n5,F5,rfl,H5⟩
 obtain⟨W0,N,hW0,hN,hT,hb4,_⟩:=new_vt w3 #[.slice p' s.d.V.length c',.int .i64 (s.d.s:Nat)] #[.slice tp' n5 tc',.int .i64 (F5:Nat),.int .i64 (s.d.z:Nat)]
 have hn5:=H5.out.2.2.2.1
 have hF5:=H5.out.2.2.2.2.1
 have hb3:=H5.out.2.2.2.2.2
 have hb13:=hb3.trans (hb4.mono hb3.size)
 have HB0:=hid (HB1.out.trans (hb13.mono HB1.out.size))
 have HL0:Hid (LBx W0 X g):=hid (z0b HL1.out hb13)
 have HT:=hid hT
 have HW0:=hid hW0
 have HN:=hid hN
 obtain⟨k1,k2,k3,k4,k5,k6⟩:=HC.out W0 HB0.out
 have cEnd:=hid k1
 have cWr:=hid k2
 have cSu:=hid k3
 have cKp:=hid k4
 have cUs:=hid k5
 have rEnd:=hid k6
 have hTB:=(H5.out.2.1.later hb4).bl
 rw [hn5] at hTB
 have cFi:Hid (∀ w',Below W0.heap.size W0 w'→Calls Tryz.prog 57 #[.pointer (some ⟨B,0,none⟩)] w' fun e w''=>e=.returned (.int .i64 (F5:Nat))∧Below W0.heap.size W0 w''):=hid (by have:=z3v HCF.out HB0.out;rw [hF5] at this;exact this)
 have cDe:Hid (∀ w',Below W0.heap.size W0 w'→Calls Tryz.prog 39 #[.pointer (some ⟨B,0,none⟩)] w' fun e w''=>e=.returned (.int .i64 (F5+n5:Nat))∧Below W0.heap.size W0 w''):=hid (by have:=z3v HCD.out HB0.out;rw [hF5,hn5] at this;exact this)
 have cPe:Hid (∀ w',Below W0.heap.size W0 w'→Calls Tryz.prog 67 #[.pointer (some ⟨B,0,none⟩)] w' fun e w''=>e=.returned (.int .i64 (g.D.ln:Nat))∧w''=w'):=hid fun w' hb=>HCP.out w' (HB0.out.trans (hb.mono HB0.out.size))
 have cBy:Hid (∀ w',Below W0.heap.size W0 w'→Calls Tryz.prog 34 #[.pointer (some ⟨B,0,none⟩),.int .i64 0] w' fun e w''=>∃ p' n' c',e=.returned (.slice p' n' c')∧(∀ w3,Below w''.heap.size w'' w3→(convert 33 9 (.slice p' n' c')).run Tryz.prog w3=.ok (.string sb) w3)∧Below W0.heap.size W0 w''):=hid fun w' hb=>(HCB.out w' (HB0.out.trans (hb.mono HB0.out.size))).mono fun e w'' ⟨p',n',c',h1,h2,h3⟩=>⟨p',n',c',h1,h2,hb.trans (h3.mono hb.size)⟩
 have hsm:F5+n5≤1000000:=by rw [← hF5,← hn5];exact HLE.out
 have hen:=fun w'=>z5s tp' n5 tc' F5 s.d.z w' (by omega)
 unfold rv at hen
 have rTe:Hid (∀ w',Below W0.heap.size W0 w'→Calls Tryz.prog 61 #[.agg #[.slice tp' n5 tc',.int .i64 (F5:Nat),.int .i64 (s.d.z:Nat)]] w' fun e w''=>e=.returned (.int .i64 (F5+n5:Nat))∧Below W0.heap.size W0 w''):=hid fun w' hb=>(hen w').mono fun e w'' ⟨he,h2⟩=>⟨he,hb.trans (h2.mono hb.size)⟩
 have HST:Hid (∀ w',Below W0.heap.size W0 w'→(convert 33 9 (.slice tp' n5 tc')).run Tryz.prog w'=.ok (.string sb) w'):=hid fun w' hb=>by rw [← HSB.out];exact conv_bl (SlG.later hTB hb)
 have HBD:=hid HB0.out
 clear k1 k2 k3 k4 k5 k6 HC HCF HCD HCP HCB hse H5 hn5 hF5 hb3 hb13 hb4 hT hW0 hN hTB hen HLE HSB
 generalize F5+n5=EE at *
 generalize s.d.V.length=nV at *
 generalize s.d.s=sz at *
 generalize s.d.z=zz at *
 go_wp2_with fail
 rw [HW0.out,HN.out]
 clear HW0 HN
 have hbd:Hid (Below W0.heap.size W0 W0.drew):=hid (Below.refl _ _).drew
 refine wp_region_held_drew (S:=fun w'=>Hid (Below W0.heap.size W0 w')) (by kernel_rfl) hbd (fun hHeld=>?_)
 clear hbd
 refine wpAnyH_take (i:=0) (oi:=⟨some 15,_,_,_,_,_⟩) (v:=.pointer (some ⟨G,0,none⟩)) rfl (by kernel_rfl) (by kernel_rfl) (by kernel_rfl) (fun _ _ _ h=>h) (Or.inl ⟨by rfl,fun w' hw'=>?_⟩) (by assumption) ?_
 · clear hHeld
   go_simp
 simp only [Act.put,sIB,sCZ,sCS]
 refine wpAnyH_take (i:=2) (oi:=⟨some 17,_,_,_,_,_⟩) (v:=.agg g.cs) rfl (by kernel_rfl) (by kernel_rfl) (by kernel_rfl) (fun _ _ _ h=>h) (Or.inl ⟨by rfl,fun w' hw'=>z2p rfl (z0b HL0.out hw'.out)⟩) (by assumption) ?_
 simp only [Act.put,sIB,sCZ,sCS]
 refine wpAnyH_ready (rs:=[1]) (by kernel_rfl) (by simp) (AllReadyH.cons rfl (fun K hK=>?_) AllReadyH.nil)
 go_simp
 go_wp2_with fail
 refine (cEnd.out _ hHeld.out).mono ?_
 rintro e v1 ⟨rfl,hb1⟩
 have hH1:Hid (Below W0.heap.size W0 v1):=hid hb1
 go_wp2_with fail
 refine hK.out _ _ hH1 (fun hHeld2=>?_)
 clear hH1 hb1
 clear hK K hHeld
 have hHeld:=hHeld2
 clear hHeld2
 try simp only [Act.put,sIB,sCZ,sCS]
 refine wpAnyH_ready (rs:=[3]) (by kernel_rfl) (by simp) (AllReadyH.cons rfl (fun K hK=>?_) AllReadyH.nil)
 go_simp
 go_wp2_with fail
 refine (rEnd.out _ hHeld.out).mono ?_
 rintro e v2 ⟨rfl,hb2⟩
 have hH2:Hid (Below W0.heap.size W0 v2):=hid hb2
 go_wp2_with fail
 refine hK.out _ _ hH2 (fun hHeld2=>?_)
 clear hH2 hb2
 clear hK K hHeld
 have hHeld:=hHeld2
 clear hHeld2
 try simp only [Act.put,sIB,sCZ,sCS]
 refine wpAnyH_take (i:=4) (oi:=⟨some 19,_,_,_,_,_⟩) (v:=.bool true) rfl (by kernel_rfl) (by kernel_rfl) (by kernel_rfl) (fun _ _ _ h=>h) (Or.inl ⟨by rfl,fun w' hw'=>?_⟩) (by assumption) ?_
 · clear hHeld
   go_simp
 simp only [Act.put,sIB,sCZ,sCS]
 refine wpAnyH_take (i:=5) (oi:=⟨some 20,_,_,_,_,_⟩) (v:=.bool true) rfl (by kernel_rfl) (by kernel_rfl) (by kernel_rfl) (fun _ _ _ h=>h) (Or.inl ⟨by rfl,fun w' hw'=>?_⟩) (by assumption) ?_
 · clear hHeld
   go_simp
 simp only [Act.put,sIB,sCZ,sCS]
 refine wpAnyH_take (i:=6) (oi:=⟨some 21,_,_,_,_,_⟩) (v:=.pointer (some ⟨G,0,none⟩)) rfl (by kernel_rfl) (by kernel_rfl) (by kernel_rfl) (fun _ _ _ h=>h) (Or.inl ⟨by rfl,fun w' hw'=>?_⟩) (by assumption) ?_
 · clear hHeld
   go_simp
 simp only [Act.put,sIB,sCZ,sCS]
 refine wpAnyH_take (i:=8) (oi:=⟨some 23,_,_,_,_,_⟩) (v:=.pointer (some ⟨X,8,none⟩)) rfl (by kernel_rfl) (by kernel_rfl) (by kernel_rfl) (fun _ _ _ h=>h) (Or.inl ⟨by rfl,fun w' hw'=>?_⟩) (by assumption) ?_
 · clear hHeld
   go_simp
 simp only [Act.put,sIB,sCZ,sCS]
 refine wpAnyH_take (i:=9) (oi:=⟨some 24,_,_,_,_,_⟩) (v:=.int .i64 (g.wr:Nat)) rfl (by kernel_rfl) (by kernel_rfl) (by kernel_rfl) (fun _ _ _ h=>h) (Or.inl ⟨by rfl,fun w' hw'=>?_⟩) (by assumption) ?_
 · have q:=(LBx.at (z0b HL0.out hw'.out)).2.1
   clear hHeld
   go_simp
 simp only [Act.put,sIB,sCZ,sCS]
 refine wpAnyH_ready (rs:=[7]) (by kernel_rfl) (by simp) (AllReadyH.cons rfl (fun K hK=>?_) AllReadyH.nil)
 go_simp
 go_wp2_with fail
 refine (cWr.out _ hHeld.out).mono ?_
 rintro e v3 ⟨rfl,hb3⟩
 have hH3:Hid (Below W0.heap.size W0 v3):=hid hb3
 go_wp2_with fail
 refine hK.out _ _ hH3 (fun hHeld2=>?_)
 clear hH3 hb3
 clear hK K hHeld
 have hHeld:=hHeld2
 clear hHeld2
 try simp only [Act.put,sIB,sCZ,sCS]
 refine wpAnyH_take (i:=10) (oi:=⟨some 25,_,_,_,_,_⟩) (v:=.bool true) rfl (by kernel_rfl) (by kernel_rfl) (by kernel_rfl) (fun _ _ _ h=>h) (Or.inl ⟨by rfl,fun w' hw'=>?_⟩) (by assumption) ?_
 · clear hHeld
   go_simp
 simp only [Act.put,sIB,sCZ,sCS]
 refine wpAnyH_take (i:=11) (oi:=⟨some 26,_,_,_,_,_⟩) (v:=.bool true) rfl (by kernel_rfl) (by kernel_rfl) (by kernel_rfl) (fun _ _ _ h=>h) (Or.inl ⟨by rfl,fun w' hw'=>?_⟩) (by assumption) ?_
 · clear hHeld
   go_simp
 simp only [Act.put,sIB,sCZ,sCS]
 refine wpAnyH_take (i:=12) (oi:=⟨some 27,_,_,_,_,_⟩) (v:=.bool true) rfl (by kernel_rfl) (by kernel_rfl) (by kernel_rfl) (fun _ _ _ h=>h) (Or.inl ⟨by rfl,fun w' hw'=>?_⟩) (by assumption) ?_
 · clear hHeld
   go_simp
 simp only [Act.put,sIB,sCZ,sCS]
 refine wpAnyH_take (i:=13) (oi:=⟨some 28,_,_,_,_,_⟩) (v:=.pointer (some ⟨G,0,none⟩)) rfl (by kernel_rfl) (by kernel_rfl) (by kernel_rfl) (fun _ _ _ h=>h) (Or.inl ⟨by rfl,fun w' hw'=>?_⟩) (by assumption) ?_
 · clear hHeld
   go_simp
 simp only [Act.put,sIB,sCZ,sCS]
 refine wpAnyH_take (i:=15) (oi:=⟨some 30,_,_,_,_,_⟩) (v:=.pointer (some ⟨X,9,none⟩)) rfl (by kernel_rfl) (by kernel_rfl) (by kernel_rfl) (fun _ _ _ h=>h) (Or.inl ⟨by rfl,fun w' hw'=>?_⟩) (by assumption) ?_
 · clear hHeld
   go_simp
 simp only [Act.put,sIB,sCZ,sCS]
 refine wpAnyH_take (i:=16) (oi:=⟨some 31,_,_,_,_,_⟩) (v:=.int .i64 (g.su:Nat)) rfl (by kernel_rfl) (by kernel_rfl) (by kernel_rfl) (fun _ _ _ h=>h) (Or.inl ⟨by rfl,fun w' hw'=>?_⟩) (by assumption) ?_
 · have q:=(LBx.at (z0b HL0.out hw'.out)).2.2.1
   clear hHeld
   go_simp
 simp only [Act.put,sIB,sCZ,sCS]
 refine wpAnyH_ready (rs:=[14]) (by kernel_rfl) (by simp) (AllReadyH.cons rfl (fun K hK=>?_) AllReadyH.nil)
 go_simp
 go_wp2_with fail
 refine (cSu.out _ hHeld.out).mono ?_
 rintro e v4 ⟨rfl,hb4⟩
 have hH4:Hid (Below W0.heap.size W0 v4):=hid hb4
 go_wp2_with fail
 refine hK.out _ _ hH4 (fun hHeld2=>?_)
 clear hH4 hb4
 clear hK K hHeld
 have hHeld:=hHeld2
 clear hHeld2
 try simp only [Act.put,sIB,sCZ,sCS]
 refine wpAnyH_take (i:=17) (oi:=⟨some 32,_,_,_,_,_⟩) (v:=.bool true) rfl (by kernel_rfl) (by kernel_rfl) (by kernel_rfl) (fun _ _ _ h=>h) (Or.inl ⟨by rfl,fun w' hw'=>?_⟩) (by assumption) ?_
 · clear hHeld
   go_simp
 simp only [Act.put,sIB,sCZ,sCS]
 refine wpAnyH_take (i:=18) (oi:=⟨some 33,_,_,_,_,_⟩) (v:=.bool true) rfl (by kernel_rfl) (by kernel_rfl) (by kernel_rfl) (fun _ _ _ h=>h) (Or.inl ⟨by rfl,fun w' hw'=>?_⟩) (by assumption) ?_
 · clear hHeld
   go_simp
 simp only [Act.put,sIB,sCZ,sCS]
 refine wpAnyH_take (i:=19) (oi:=⟨some 34,_,_,_,_,_⟩) (v:=.bool true) rfl (by kernel_rfl) (by kernel_rfl) (by kernel_rfl) (fun _ _ _ h=>h) (Or.inl ⟨by rfl,fun w' hw'=>?_⟩) (by assumption) ?_
 · clear hHeld
   go_simp
 simp only [Act.put,sIB,sCZ,sCS]
 refine wpAnyH_take (i:=20) (oi:=⟨some 35,_,_,_,_,_⟩) (v:=.pointer (some ⟨G,0,none⟩)) rfl (by kernel_rfl) (by kernel_rfl) (by kernel_rfl) (fun _ _ _ h=>h) (Or.inl ⟨by rfl,fun w' hw'=>?_⟩) (by assumption) ?_
 · clear hHeld
   go_simp
 simp only [Act.put,sIB,sCZ,sCS]
 refine wpAnyH_take (i:=22) (oi:=⟨some 37,_,_,_,_,_⟩) (v:=.pointer (some ⟨X,10,none⟩)) rfl (by kernel_rfl) (by kernel_rfl) (by kernel_rfl) (fun _ _ _ h=>h) (Or.inl ⟨by rfl,fun w' hw'=>?_⟩) (by assumption) ?_
 · clear hHeld
   go_simp
 simp only [Act.put,sIB,sCZ,sCS]
 refine wpAnyH_take (i:=23) (oi:=⟨some 38,_,_,_,_,_⟩) (v:=.int .i64 (g.kp:Nat)) rfl (by kernel_rfl) (by kernel_rfl) (by kernel_rfl) (fun _ _ _ h=>h) (Or.inl ⟨by rfl,fun w' hw'=>?_⟩) (by assumption) ?_
 · have q:=(LBx.at (z0b HL0.out hw'.out)).2.2.2
   clear hHeld
   go_simp
 simp only [Act.put,sIB,sCZ,sCS]
 refine wpAnyH_ready (rs:=[21]) (by kernel_rfl) (by simp) (AllReadyH.cons rfl (fun K hK=>?_) AllReadyH.nil)
 go_simp
 go_wp2_with fail
 refine (cKp.out _ hHeld.out).mono ?_
 rintro e v5 ⟨rfl,hb5⟩
 have hH5:Hid (Below W0.heap.size W0 v5):=hid hb5
 go_wp2_with fail
 refine hK.out _ _ hH5 (fun hHeld2=>?_)
 clear hH5 hb5
 clear hK K hHeld
 have hHeld:=hHeld2
 clear hHeld2
 try simp only [Act.put,sIB,sCZ,sCS]
 refine wpAnyH_take (i:=24) (oi:=⟨some 39,_,_,_,_,_⟩) (v:=.bool true) rfl (by kernel_rfl) (by kernel_rfl) (by kernel_rfl) (fun _ _ _ h=>h) (Or.inl ⟨by rfl,fun w' hw'=>?_⟩) (by assumption) ?_
 · clear hHeld
   go_simp
 simp only [Act.put,sIB,sCZ,sCS]
 refine wpAnyH_take (i:=25) (oi:=⟨some 40,_,_,_,_,_⟩) (v:=.bool true) rfl (by kernel_rfl) (by kernel_rfl) (by kernel_rfl) (fun _ _ _ h=>h) (Or.inl ⟨by rfl,fun w' hw'=>?_⟩) (by assumption) ?_
 · clear hHeld
   go_simp
 simp only [Act.put,sIB,sCZ,sCS]
 refine wpAnyH_take (i:=26) (oi:=⟨some 41,_,_,_,_,_⟩) (v:=.bool true) rfl (by kernel_rfl) (by kernel_rfl) (by kernel_rfl) (fun _ _ _ h=>h) (Or.inl ⟨by rfl,fun w' hw'=>?_⟩) (by assumption) ?_
 · clear hHeld
   go_simp
 simp only [Act.put,sIB,sCZ,sCS]
 refine wpAnyH_take (i:=27) (oi:=⟨some 42,_,_,_,_,_⟩) (v:=.pointer (some ⟨G,0,none⟩)) rfl (by kernel_rfl) (by kernel_rfl) (by kernel_rfl) (fun _ _ _ h=>h) (Or.inl ⟨by rfl,fun w' hw'=>?_⟩) (by assumption) ?_
 · clear hHeld
   go_simp
 simp only [Act.put,sIB,sCZ,sCS]
 refine wpAnyH_take (i:=29) (oi:=⟨some 44,_,_,_,_,_⟩) (v:=.agg g.cs) rfl (by kernel_rfl) (by kernel_rfl) (by kernel_rfl) (fun _ _ _ h=>h) (Or.inl ⟨by rfl,fun w' hw'=>z2p rfl (z0b HL0.out hw'.out)⟩) (by assumption) ?_
 simp only [Act.put,sIB,sCZ,sCS]
 refine wpAnyH_take (i:=31) (oi:=⟨some 46,_,_,_,_,_⟩) (v:=.pointer (some ⟨X,10,none⟩)) rfl (by kernel_rfl) (by kernel_rfl) (by kernel_rfl) (fun _ _ _ h=>h) (Or.inl ⟨by rfl,fun w' hw'=>?_⟩) (by assumption) ?_
 · clear hHeld
   go_simp
 simp only [Act.put,sIB,sCZ,sCS]
 refine wpAnyH_take (i:=32) (oi:=⟨some 47,_,_,_,_,_⟩) (v:=.int .i64 (g.kp:Nat)) rfl (by kernel_rfl) (by kernel_rfl) (by kernel_rfl) (fun _ _ _ h=>h) (Or.inl ⟨by rfl,fun w' hw'=>?_⟩) (by assumption) ?_
 · have q:=(LBx.at (z0b HL0.out hw'.out)).2.2.2
   clear hHeld
   go_simp
 simp only [Act.put,sIB,sCZ,sCS]
 refine wpAnyH_ready (rs:=[28]) (by kernel_rfl) (by simp) (AllReadyH.cons rfl (fun K hK=>?_) AllReadyH.nil)
 go_simp
 go_wp2_with fail
 refine (cUs.out _ hHeld.out).mono ?_
 rintro e v6 ⟨rfl,hb6⟩
 have hH6:Hid (Below W0.heap.size W0 v6):=hid hb6
 go_wp2_with fail
 refine hK.out _ _ hH6 (fun hHeld2=>?_)
 clear hH6 hb6
 clear hK K hHeld
 have hHeld:=hHeld2
 clear hHeld2
 try simp only [Act.put,sIB,sCZ,sCS]
 refine wpAnyH_ready (rs:=[30]) (by kernel_rfl) (by simp) (AllReadyH.cons rfl (fun K hK=>?_) AllReadyH.nil)
 go_simp
 go_wp2_with fail
 refine (rEnd.out _ hHeld.out).mono ?_
 rintro e v7 ⟨rfl,hb7⟩
 have hH7:Hid (Below W0.heap.size W0 v7):=hid hb7
 go_wp2_with fail
 refine hK.out _ _ hH7 (fun hHeld2=>?_)
 clear hH7 hb7
 clear hK K hHeld
 have hHeld:=hHeld2
 clear hHeld2
 try simp only [Act.put,sIB,sCZ,sCS]
 refine wpAnyH_take (i:=33) (oi:=⟨some 48,_,_,_,_,_⟩) (v:=.int .i64 (us:Nat)) rfl (by kernel_rfl) (by kernel_rfl) (by kernel_rfl) (fun _ _ _ h=>h) (Or.inl ⟨by rfl,fun w' hw'=>?_⟩) (by assumption) ?_
 · clear hHeld
   go_simp
 simp only [Act.put,sIB,sCZ,sCS]
 refine wpAnyH_take (i:=34) (oi:=⟨some 49,_,_,_,_,_⟩) (v:=.bool true) rfl (by kernel_rfl) (by kernel_rfl) (by kernel_rfl) (fun _ _ _ h=>h) (Or.inl ⟨by rfl,fun w' hw'=>?_⟩) (by assumption) ?_
 · clear hHeld
   go_simp
 simp only [Act.put,sIB,sCZ,sCS]
 refine wpAnyH_take (i:=35) (oi:=⟨some 50,_,_,_,_,_⟩) (v:=.bool true) rfl (by kernel_rfl) (by kernel_rfl) (by kernel_rfl) (fun _ _ _ h=>h) (Or.inl ⟨by rfl,fun w' hw'=>?_⟩) (by assumption) ?_
 · clear hHeld
   go_simp
 simp only [Act.put,sIB,sCZ,sCS]
 refine wpAnyH_take (i:=36) (oi:=⟨some 51,_,_,_,_,_⟩) (v:=.bool true) rfl (by kernel_rfl) (by kernel_rfl) (by kernel_rfl) (fun _ _ _ h=>h) (Or.inl ⟨by rfl,fun w' hw'=>?_⟩) (by assumption) ?_
 · clear hHeld
   go_simp
 simp only [Act.put,sIB,sCZ,sCS]
 refine wpAnyH_take (i:=37) (oi:=⟨some 52,_,_,_,_,_⟩) (v:=.pointer (some ⟨B,0,none⟩)) rfl (by kernel_rfl) (by kernel_rfl) (by kernel_rfl) (fun _ _ _ h=>h) (Or.inl ⟨by rfl,fun w' hw'=>?_⟩) (by assumption) ?_
 · clear hHeld
   go_simp
 simp only [Act.put,sIB,sCZ,sCS]
 refine wpAnyH_take (i:=39) (oi:=⟨some 54,_,_,_,_,_⟩) (v:=.pointer (some ⟨N+1,1,none⟩)) rfl (by kernel_rfl) (by kernel_rfl) (by kernel_rfl) (fun _ _ _ h=>h) (Or.inl ⟨by rfl,fun w' hw'=>?_⟩) (by assumption) ?_
 · clear hHeld
   go_simp
 simp only [Act.put,sIB,sCZ,sCS]
 refine wpAnyH_take (i:=40) (oi:=⟨some 55,_,_,_,_,_⟩) (v:=.int .i64 (F5:Nat)) rfl (by kernel_rfl) (by kernel_rfl) (by kernel_rfl) (fun _ _ _ h=>h) (Or.inl ⟨by rfl,fun w' hw'=>?_⟩) (by assumption) ?_
 · have t1:=z0a (j:=1) (z0b HT.out hw'.out) (v:=.int .i64 (F5:Nat)) rfl
   clear hHeld
   go_simp
 simp only [Act.put,sIB,sCZ,sCS]
 refine wpAnyH_ready (rs:=[38]) (by kernel_rfl) (by simp) (AllReadyH.cons rfl (fun K hK=>?_) AllReadyH.nil)
 go_simp
 go_wp2_with fail
 refine (cFi.out _ hHeld.out).mono ?_
 rintro e v8 ⟨rfl,hb8⟩
 have hH8:Hid (Below W0.heap.size W0 v8):=hid hb8
 go_wp2_with fail
 refine hK.out _ _ hH8 (fun hHeld2=>?_)
 clear hH8 hb8
 clear hK K hHeld
 have hHeld:=hHeld2
 clear hHeld2
 try simp only [Act.put,sIB,sCZ,sCS]
 refine wpAnyH_take (i:=41) (oi:=⟨some 56,_,_,_,_,_⟩) (v:=.bool true) rfl (by kernel_rfl) (by kernel_rfl) (by kernel_rfl) (fun _ _ _ h=>h) (Or.inl ⟨by rfl,fun w' hw'=>?_⟩) (by assumption) ?_
 · clear hHeld
   go_simp
 simp only [Act.put,sIB,sCZ,sCS]
 refine wpAnyH_take (i:=42) (oi:=⟨some 57,_,_,_,_,_⟩) (v:=.bool true) rfl (by kernel_rfl) (by kernel_rfl) (by kernel_rfl) (fun _ _ _ h=>h) (Or.inl ⟨by rfl,fun w' hw'=>?_⟩) (by assumption) ?_
 · clear hHeld
   go_simp
 simp only [Act.put,sIB,sCZ,sCS]
 refine wpAnyH_take (i:=43) (oi:=⟨some 58,_,_,_,_,_⟩) (v:=.bool true) rfl (by kernel_rfl) (by kernel_rfl) (by kernel_rfl) (fun _ _ _ h=>h) (Or.inl ⟨by rfl,fun w' hw'=>?_⟩) (by assumption) ?_
 · clear hHeld
   go_simp
 simp only [Act.put,sIB,sCZ,sCS]
 refine wpAnyH_take (i:=44) (oi:=⟨some 59,_,_,_,_,_⟩) (v:=.pointer (some ⟨B,0,none⟩)) rfl (by kernel_rfl) (by kernel_rfl) (by kernel_rfl) (fun _ _ _ h=>h) (Or.inl ⟨by rfl,fun w' hw'=>?_⟩) (by assumption) ?_
 · clear hHeld
   go_simp
 simp only [Act.put,sIB,sCZ,sCS]
 refine wpAnyH_take (i:=46) (oi:=⟨some 61,_,_,_,_,_⟩) (v:=.agg #[.slice tp' n5 tc',.int .i64 (F5:Nat),.int .i64 (zz:Nat)]) rfl (by kernel_rfl) (by kernel_rfl) (by kernel_rfl) (fun _ _ _ h=>h) (Or.inl ⟨by rfl,fun w' hw'=>?_⟩) (by assumption) ?_
 · have t0:=z0a (j:=0) (z0b HT.out hw'.out) (v:=.slice tp' n5 tc') rfl
   have t1:=z0a (j:=1) (z0b HT.out hw'.out) (v:=.int .i64 (F5:Nat)) rfl
   have t2:=z0a (j:=2) (z0b HT.out hw'.out) (v:=.int .i64 (zz:Nat)) rfl
   clear hHeld
   go_simp
 simp only [Act.put,sIB,sCZ,sCS]
 refine wpAnyH_ready (rs:=[45]) (by kernel_rfl) (by simp) (AllReadyH.cons rfl (fun K hK=>?_) AllReadyH.nil)
 go_simp
 go_wp2_with fail
 refine (cDe.out _ hHeld.out).mono ?_
 rintro e v9 ⟨rfl,hb9⟩
 have hH9:Hid (Below W0.heap.size W0 v9):=hid hb9
 go_wp2_with fail
 refine hK.out _ _ hH9 (fun hHeld2=>?_)
 clear hH9 hb9
 clear hK K hHeld
 have hHeld:=hHeld2
 clear hHeld2
 try simp only [Act.put,sIB,sCZ,sCS]
 refine wpAnyH_ready (rs:=[47]) (by kernel_rfl) (by simp) (AllReadyH.cons rfl (fun K hK=>?_) AllReadyH.nil)
 go_simp
 go_wp2_with fail
 refine (rTe.out _ hHeld.out).mono ?_
 rintro e v10 ⟨rfl,hb10⟩
 have hH10:Hid (Below W0.heap.size W0 v10):=hid hb10
 go_wp2_with fail
 refine hK.out _ _ hH10 (fun hHeld2=>?_)
 clear hH10 hb10
 clear hK K hHeld
 have hHeld:=hHeld2
 clear hHeld2
 try simp only [Act.put,sIB,sCZ,sCS]
 refine wpAnyH_take (i:=48) (oi:=⟨some 63,_,_,_,_,_⟩) (v:=.bool true) rfl (by kernel_rfl) (by kernel_rfl) (by kernel_rfl) (fun _ _ _ h=>h) (Or.inl ⟨by rfl,fun w' hw'=>?_⟩) (by assumption) ?_
 · clear hHeld
   go_simp
 simp only [Act.put,sIB,sCZ,sCS]
 refine wpAnyH_take (i:=49) (oi:=⟨some 64,_,_,_,_,_⟩) (v:=.bool true) rfl (by kernel_rfl) (by kernel_rfl) (by kernel_rfl) (fun _ _ _ h=>h) (Or.inl ⟨by rfl,fun w' hw'=>?_⟩) (by assumption) ?_
 · clear hHeld
   go_simp
 simp only [Act.put,sIB,sCZ,sCS]
 refine wpAnyH_take (i:=50) (oi:=⟨some 65,_,_,_,_,_⟩) (v:=.bool true) rfl (by kernel_rfl) (by kernel_rfl) (by kernel_rfl) (fun _ _ _ h=>h) (Or.inl ⟨by rfl,fun w' hw'=>?_⟩) (by assumption) ?_
 · clear hHeld
   go_simp
 simp only [Act.put,sIB,sCZ,sCS]
 refine wpAnyH_take (i:=51) (oi:=⟨some 66,_,_,_,_,_⟩) (v:=.pointer (some ⟨B,0,none⟩)) rfl (by kernel_rfl) (by kernel_rfl) (by kernel_rfl) (fun _ _ _ h=>h) (Or.inl ⟨by rfl,fun w' hw'=>?_⟩) (by assumption) ?_
 · clear hHeld
   go_simp
 simp only [Act.put,sIB,sCZ,sCS]
 refine wpAnyH_take (i:=54) (oi:=⟨some 69,_,_,_,_,_⟩) (v:=.pointer (some ⟨N+1,0,none⟩)) rfl (by kernel_rfl) (by kernel_rfl) (by kernel_rfl) (fun _ _ _ h=>h) (Or.inl ⟨by rfl,fun w' hw'=>?_⟩) (by assumption) ?_
 · clear hHeld
   go_simp
 simp only [Act.put,sIB,sCZ,sCS]
 refine wpAnyH_take (i:=55) (oi:=⟨some 70,_,_,_,_,_⟩) (v:=.slice tp' n5 tc') rfl (by kernel_rfl) (by kernel_rfl) (by kernel_rfl) (fun _ _ _ h=>h) (Or.inl ⟨by rfl,fun w' hw'=>?_⟩) (by assumption) ?_
 · have t0:=z0a (j:=0) (z0b HT.out hw'.out) (v:=.slice tp' n5 tc') rfl
   clear hHeld
   go_simp
 simp only [Act.put,sIB,sCZ,sCS]
 refine wpAnyH_take (i:=56) (oi:=⟨some 71,_,_,_,_,_⟩) (v:=.string sb) rfl (by kernel_rfl) (by kernel_rfl) (by kernel_rfl) (fun _ _ _ h=>h) (Or.inl ⟨by rfl,fun w' hw'=>?_⟩) (by assumption) ?_
 · have q:=HST.out w' hw'.out
   clear hHeld
   go_simp
 simp only [Act.put,sIB,sCZ,sCS]
 refine wpAnyH_ready (rs:=[52]) (by kernel_rfl) (by simp) (AllReadyH.cons rfl (fun K hK=>?_) AllReadyH.nil)
 go_simp
 go_wp2_with fail
 refine (cBy.out _ hHeld.out).mono ?_
 rintro e w6 ⟨p6,n6,c6,rfl,hcv6,hb6⟩
 have hH6:Hid (Below W0.heap.size W0 w6):=hid hb6
 have HCV6:=hid hcv6
 go_wp2_with fail
 refine hK.out _ _ hH6 (fun hHeld2=>?_)
 clear hH6 hcv6 hb6
 clear hK K hHeld
 have hHeld:=hHeld2
 clear hHeld2
 try simp only [Act.put,sIB,sCZ,sCS]
 refine wpAnyH_less (S2:=fun w'=>Hid (Below W0.heap.size W0 w')∧Hid (Below w6.heap.size w6 w')) (fun _ h=>h.1) _ _ _ _ ?_
 have hHeld2:(fun w'=>Hid (Below W0.heap.size W0 w')∧Hid (Below w6.heap.size w6 w')) w6:=⟨hHeld,hid (Below.refl _ _)⟩
 clear hHeld
 have hHeld:=hHeld2
 clear hHeld2
 refine wpAnyH_take (i:=53) (oi:=⟨some 68,_,_,_,_,_⟩) (v:=.string sb) rfl (by kernel_rfl) (by kernel_rfl) (by kernel_rfl) (fun _ _ _ h=>h) (Or.inl ⟨by rfl,fun w' hw'=>?_⟩) (by assumption) ?_
 · have q:=HCV6.out w' hw'.2.out
   clear hHeld
   go_simp
 simp only [Act.put,sIB,sCZ,sCS]
 refine wpAnyH_take (i:=57) (oi:=⟨some 72,_,_,_,_,_⟩) (v:=.bool true) rfl (by kernel_rfl) (by kernel_rfl) (by kernel_rfl) (fun _ _ _ h=>h) (Or.inl ⟨by rfl,fun w' hw'=>?_⟩) (by assumption) ?_
 · clear hHeld
   go_simp
 simp only [Act.put,sIB,sCZ,sCS]
 refine wpAnyH_take (i:=58) (oi:=⟨some 73,_,_,_,_,_⟩) (v:=.bool true) rfl (by kernel_rfl) (by kernel_rfl) (by kernel_rfl) (fun _ _ _ h=>h) (Or.inl ⟨by rfl,fun w' hw'=>?_⟩) (by assumption) ?_
 · clear hHeld
   go_simp
 simp only [Act.put,sIB,sCZ,sCS]
 refine wpAnyH_take (i:=59) (oi:=⟨some 74,_,_,_,_,_⟩) (v:=.bool true) rfl (by kernel_rfl) (by kernel_rfl) (by kernel_rfl) (fun _ _ _ h=>h) (Or.inl ⟨by rfl,fun w' hw'=>?_⟩) (by assumption) ?_
 · clear hHeld
   go_simp
 simp only [Act.put,sIB,sCZ,sCS]
 refine wpAnyH_take (i:=60) (oi:=⟨some 75,_,_,_,_,_⟩) (v:=.pointer (some ⟨B,0,none⟩)) rfl (by kernel_rfl) (by kernel_rfl) (by kernel_rfl) (fun _ _ _ h=>h) (Or.inl ⟨by rfl,fun w' hw'=>?_⟩) (by assumption) ?_
 · clear hHeld
   go_simp
 simp only [Act.put,sIB,sCZ,sCS]
 refine wpAnyH_take (i:=62) (oi:=⟨some 77,_,_,_,_,_⟩) (v:=.pointer (some ⟨X,0,none⟩)) rfl (by kernel_rfl) (by kernel_rfl) (by kernel_rfl) (fun _ _ _ h=>h) (Or.inl ⟨by rfl,fun w' hw'=>?_⟩) (by assumption) ?_
 · clear hHeld
   go_simp
 simp only [Act.put,sIB,sCZ,sCS]
 refine wpAnyH_take (i:=63) (oi:=⟨some 78,_,_,_,_,_⟩) (v:=.pointer (some ⟨X,5,none⟩)) rfl (by kernel_rfl) (by kernel_rfl) (by kernel_rfl) (fun _ _ _ h=>h) (Or.inl ⟨by rfl,fun w' hw'=>?_⟩) (by assumption) ?_
 · clear hHeld
   go_simp
 simp only [Act.put,sIB,sCZ,sCS]
 refine wpAnyH_take (i:=64) (oi:=⟨some 79,_,_,_,_,_⟩) (v:=.slice g.D.lp g.D.ln g.D.lc) rfl (by kernel_rfl) (by kernel_rfl) (by kernel_rfl) (fun _ _ _ h=>h) (Or.inl ⟨by rfl,fun w' hw'=>?_⟩) (by assumption) ?_
 · have q:=z0a (j:=5) (z0b HL0.out hw'.1.out) (v:=.slice g.D.lp g.D.ln g.D.lc) rfl
   clear hHeld
   go_simp
 simp only [Act.put,sIB,sCZ,sCS]
 refine wpAnyH_take (i:=65) (oi:=⟨some 80,_,_,_,_,_⟩) (v:=.int .i64 (g.D.ln:Nat)) rfl (by kernel_rfl) (by kernel_rfl) (by kernel_rfl) (fun _ _ _ h=>h) (Or.inl ⟨by rfl,fun w' hw'=>?_⟩) (by assumption) ?_
 · clear hHeld
   go_simp
 simp only [Act.put,sIB,sCZ,sCS]
 refine wpAnyH_ready (rs:=[61]) (by kernel_rfl) (by simp) (AllReadyH.cons rfl (fun K hK=>?_) AllReadyH.nil)
 go_simp
 go_wp2_with fail
 refine (cPe.out _ hHeld.1.out).mono ?_
 rintro e v11 ⟨rfl,rfl⟩
 go_wp2_with fail
 refine hK.out _ _ hHeld (fun hHeld2=>?_)
 clear hK K hHeld
 have hHeld:=hHeld2
 clear hHeld2
 try simp only [Act.put,sIB,sCZ,sCS]
 refine wpAnyH_take (i:=66) (oi:=⟨some 81,_,_,_,_,_⟩) (v:=.bool true) rfl (by kernel_rfl) (by kernel_rfl) (by kernel_rfl) (fun _ _ _ h=>h) (Or.inl ⟨by rfl,fun w' hw'=>?_⟩) (by assumption) ?_
 · clear hHeld
   go_simp
 simp only [Act.put,sIB,sCZ,sCS]
 refine wpAnyH_take (i:=67) (oi:=⟨some 82,_,_,_,_,_⟩) (v:=.bool true) rfl (by kernel_rfl) (by kernel_rfl) (by kernel_rfl) (fun _ _ _ h=>h) (Or.inl ⟨by rfl,fun w' hw'=>?_⟩) (by assumption) ?_
 · clear hHeld
   go_simp
 simp only [Act.put,sIB,sCZ,sCS]
 refine wpAnyH_take (i:=68) (oi:=⟨some 6,_,_,_,_,_⟩) (v:=.bool true) rfl (by kernel_rfl) (by kernel_rfl) (by kernel_rfl) (fun _ _ _ h=>h) (Or.inl ⟨by rfl,fun w' hw'=>?_⟩) (by assumption) ?_
 · clear hHeld
   go_simp
 simp only [Act.put,sIB,sCZ,sCS]
 refine wpAnyH_done (by kernel_rfl) ?_ _
 go_wp2_with fail
 go_ret
 exact⟨rfl,HBD.out.trans (hHeld.1.out.mono HBD.out.size)⟩
def z7g (w:World) (col:Nat→Nat):Nat→Nat:=fun k=>if k<w.heap.size then col k else 0
theorem z7f (w:World) (col:Nat→Nat):Ext w col (z7g w col):=fun k hk=>if_pos hk
structure Wo (W w:World) (col:Nat→Nat) (B X:Nat) (d dr:DS) (D:Rn):Prop where
 zero:∀ k,k<W.heap.size→col k=0
 below:Below W.heap.size W w
 dk:Dk w col 1 B d
 flat:∀ k,w.heap.size≤k→col k=0
 x0:col X=9
 xw:W.heap.size≤X
 rd:RdN w (fun k=>col k=0∧k≠X) D dr
 box:DBx w X D
theorem Wo.hQ {W w:World} {col:Nat→Nat} {B X:Nat} {d dr:DS} {D:Rn} (h:Wo W w col B X d dr D):∀ k,w.heap.size≤k→col k=0∧k≠X:=fun k hk=>⟨h.flat k hk,by have:=z0k h.box;omega⟩
theorem Wo.act {W w w':World} {col:Nat→Nat} {B X:Nat} {d d' dr:DS} {D:Rn} (h:Wo W w col B X d dr D) (ht:z4m w col 1 B d' w'):∃ col',Wo W w' col' B X d' dr D:=by
 obtain⟨col',he,hd,hc⟩:=ht
 have hxl:=z0k h.box
 have hs:=hc.size
 have hf:=z7f w' col'
 have n0:∀ k,col k=0→¬ own col 1 k:=fun k hk ho=>by unfold own at ho;omega
 refine⟨z7g w' col',fun k hk=>?_,hc.below h.below h.below.size fun k hk=>?_,hd.recol hf,fun k hk=>if_neg (Nat.not_lt.2 hk),?_,h.xw,?_,(hc.block X hxl fun ho=>by have:=h.x0;unfold own at ho;omega).trans h.box⟩
 · have:=h.below.size
   rw [hf k (by omega),he k (by omega)]
   exact h.zero k hk
 · rcases Nat.lt_or_ge k W.heap.size with h1 | h1
   · exact absurd hk (n0 k (h.zero k h1))
   · exact h1
 · rw [hf X (by omega),he X hxl]
   exact h.x0
 · refine ((h.rd.mono (R:=fun k=>(col k=0∧k≠X)∧k<w.heap.size) fun k h1 h2=>⟨h1,h2⟩).keep hc fun k hk=>n0 k hk.1.1).mono fun k hk hl=>⟨?_,hk.1.2⟩
   rw [hf k hl,he k hk.2]
   exact hk.1.1
theorem Wo.ref {W w w':World} {col:Nat→Nat} {B X:Nat} {d dr dr':DS} {D D':Rn} (h:Wo W w col B X d dr D) (hb:Below w.heap.size w w') (hr:RdN w' (fun k=>col k=0∧k≠X) D' dr'):Wo W (w'.setRow X D'.cs) col B X d dr' D':=by
 have hc:Chg (fun k=>k=X) w' (w'.setRow X D'.cs):=Chg.setRow _
 have hs:=hb.size
 have hs2:=hc.size
 have hX:=h.x0
 refine⟨h.zero,hc.below (h.below.trans (hb.mono h.below.size)) (Nat.le_trans h.below.size hs) fun k hk=>by have:=h.xw;omega,(h.dk.later hb).keep hc fun k ho hk=>?_,fun k hk=>h.flat k (by omega),hX,h.xw,hr.keep hc fun k hk hs=>hk.2 hs,setRow_heap _ _ _ _ _ _ (z0b h.box hb)⟩
 subst hk
 unfold own at ho
 omega
theorem Wo.start {W w1 w2:World} {B:Nat} {d:DS} {D:Rn} (hbo:Born W w1 B d) (hb1:Below W.heap.size W w1) (hr:RdN w2 (fun k=>w1.heap.size≤k) D d) (hb2:Below w1.heap.size w1 w2):∃ col,Wo W ((w2.alloc (.cells dkz 38)).setRow w2.heap.size D.cs) col B w2.heap.size d d D:=by
 obtain⟨col1,he1,hd1⟩:=hbo (fun _=>0) 1 (Nat.le_refl _)
 obtain⟨W3,X,hW,hX,h0,hd,hb3⟩:=z9k w2 D
 rw [hX]
 have hs3:W3.heap.size=X+1:=by rw [← hW];simp [World.setRow,hX]
 rw [hW]
 have hs2:=hb2.size
 have hs1:=hb1.size
 have hf:Ext w1 col1 (fun k=>if k=X then 9 else z7g w1 col1 k):=fun k hk=>by
  show (if k=X then 9 else z7g w1 col1 k)=_
  rw [if_neg (by omega)]
  exact z7f w1 col1 k hk
 have hz:∀ k,w1.heap.size≤k→k≠X→(fun k=>if k=X then 9 else z7g w1 col1 k) k=0:=fun k hk hne=>by
  show (if k=X then 9 else z7g w1 col1 k)=_
  rw [if_neg hne]
  exact if_neg (Nat.not_lt.2 hk)
 have hb23:=hb2.trans (hb3.mono hs2)
 refine⟨_,fun k hk=>?_,hb1.trans (hb23.mono hs1),(hd1.recol hf).later hb23,fun k hk=>hz k (by omega) (by omega),if_pos rfl,by omega,(hr.mono (R:=fun k=>(fun k=>if k=X then 9 else z7g w1 col1 k) k=0∧k≠X) fun k h1 h2=>⟨hz k h1 (by omega),by omega⟩).later hb3,hd⟩
 exact (hf k (by omega)).trans (he1 k hk)
theorem opn_facts (b:List Int) (hb:b.length≤500) (x:Int):((DS.new 1 8 64 1000).tot+65536≤1000000∧(DS.new 1 8 64 1000).L.length=0∧(DS.new 1 8 64 1000).M≤1048576)∧(((DS.new 1 8 64 1000).app b).tot≤500∧((DS.new 1 8 64 1000).app b).L.length≤1∧((DS.new 1 8 64 1000).app b).M≤1048576) ∧
 ((((DS.new 1 8 64 1000).app b).add (.drop x)).tot≤500∧(((DS.new 1 8 64 1000).app b).add (.drop x)).L.length≤2)∧(((((DS.new 1 8 64 1000).app b).add (.drop x)).sync).tot≤500∧((((DS.new 1 8 64 1000).app b).add (.drop x)).sync).L.length=0∧((((DS.new 1 8 64 1000).app b).add (.drop x)).sync).M≤1048576∧0<((((DS.new 1 8 64 1000).app b).add (.drop x)).sync).z):=by
 have h0:(DS.new 1 8 64 1000).tot=0∧(DS.new 1 8 64 1000).L.length=0∧(DS.new 1 8 64 1000).M=1000∧(DS.new 1 8 64 1000).z=64:=by decide +kernel
 obtain⟨a1,a2,a3,a4⟩:=h0
 generalize DS.new 1 8 64 1000=d at *
 have h1:(d.app b).tot≤500∧(d.app b).L.length≤1∧(d.app b).M=1000∧(d.app b).z=64:=by
  by_cases h:d.addE b=0
  · have e:d.app b=d.add (.grow b):=if_pos h
    have hw:(Dw.grow b).wt=b.length:=rfl
    rw [e,z9g,hw]
    refine⟨by omega,?_,a3,a4⟩
    show (d.L ++ [_]).length≤1
    rw [List.length_append,List.length_singleton]
    omega
  · have e:d.app b=d:=if_neg h
    rw [e]
    exact⟨by omega,by omega,a3,a4⟩
 obtain⟨b1,b2,b3,b4⟩:=h1
 generalize d.app b=d1 at *
 have h2:(d1.add (.drop x)).tot=d1.tot:=by rw [z9g];rfl
 have h3:(d1.add (.drop x)).L.length≤2:=by
  show (d1.L ++ [_]).length≤2
  rw [List.length_append,List.length_singleton]
  omega
 have h4:(d1.add (.drop x)).z=64:=b4
 have h5:=sync_tot (d1.add (.drop x)) (by omega)
 exact⟨⟨by omega,a2,by omega⟩,⟨b1,b2,by omega⟩,⟨by omega,h3⟩,by omega,rfl,by show d1.M≤_;omega,by show 0<d1.z;omega⟩
theorem start_tot (d:DS) (x y:Int):(LS.start d x y).d.tot=d.tot:=by
 show (if _ then d.add (.cut _) else d).tot=d.tot
 split
 · rw [z9g]
   rfl
 · rfl
theorem start_small (d:DS) (hz:0<d.z) (h:d.tot≤500) (x y:Int):(LS.start d x y).d.tot≤1000000∧(LS.start d x y).fin≤1000000∧(LS.start d x y).kp≤(LS.start d x y).fin:=by
 have h1:d.hi≤d.tot:=d.sT_len hz
 have h2:=q2i x d.lo d.hi
 have h3:=q2i y d.lo (kn x d.lo d.hi)
 refine⟨by rw [start_tot];omega,?_,?_⟩
 · show kn x d.lo d.hi+0≤_
   omega
 · show kn y d.lo (kn x d.lo d.hi)≤kn x d.lo d.hi+0
   omega
theorem law_wopens (p:Option Addr) (n c:Nat) (Bs:List Nat) (x y:Int) (W:World) (hw:Wd4 W) (hS:Sl W p n c Bs) (hcm:c≤maxLen) :
 Calls Tryz.prog 4 #[.slice p n c,.int .i64 x,.int .i64 y] W fun e w'=>e=.returned (.bool true)∧Below W.heap.size W w':=by
 obtain⟨nk,hk,hkl,hk4⟩:∃ k:Nat,min (n:Int) 500=(k:Int)∧k≤n∧k≤500:=⟨min n 500,by omega,Nat.min_le_left ..,Nat.min_le_right ..⟩
 have hcap:=hS.cap
 have hbl:=(hS.take nk hkl).bl hcm
 generalize zi (Bs.take nk)=b at *
 have hbn:=hbl.len
 obtain⟨⟨f1,f2,f3⟩,⟨f4,f5,f6⟩,⟨f7,f8⟩,f9,f10,f11,f12⟩:=opn_facts b (by omega) x
 have HBL:=hid hbl
 have HWD:=hid hw
 have HF0:=hid (And.intro f1 (And.intro f2 f3))
 have HF1:=hid (And.intro f4 (And.intro f5 f6))
 have HF2:=hid (And.intro f7 f8)
 have HF3:=hid (And.intro f9 (And.intro f10 (And.intro f11 f12)))
 have HE:Hid (z9q (DS.new 1 8 64 1000) (.grow b)=(DS.new 1 8 64 1000).app b):=hid rfl
 have hdn:=q0l 1 8 64 1000 W
 clear hS hcm hw hbl hbn f1 f2 f3 f4 f5 f6 f7 f8 f9 f10 f11 f12
 go_enter Tryz.func4,Tryz.ntmps4
 go_wp2_with fail
 refine hdn.mono ?_
 rintro e w1 ⟨B,rfl,hbo,hB,hb1⟩
 have hrn:Calls Tryz.prog 15 #[.int .i64 1,.int .i64 8,.int .i64 64,.int .i64 1000] w1 (q1d w1 (fun k=>w1.heap.size≤k) (DS.new 1 8 64 1000)):=rdn_new 1 8 64 1000 (by omega) w1
 have HBO:=hid hbo
 have HB1:=hid hb1
 clear hbo hB hb1 hdn
 go_wp2_with fail
 refine hrn.mono ?_
 rintro e w2 ⟨D,rfl,hrd,hb2⟩
 obtain⟨col0,ho⟩:=Wo.start HBO.out HB1.out hrd hb2
 obtain⟨W3,X,hW3,hX,h30,_,_⟩:=z9k w2 D
 rw [hX] at ho
 rw [hW3] at ho
 generalize hd0:DS.new 1 8 64 1000=d0 at *
 have HO3:=hid ho
 have HW3:=hid hW3
 have HX:=hid hX
 have H30:=hid h30
 have hap:=disk_append ho.dk HF0.out.1 (by have:=HF0.out.2.1;omega) p nk c b (SlG.later HBL.out ho.below) (fun h0 a ha hown=>by
  obtain⟨bb,off,hp,hlt,_⟩:=BL.at HBL.out h0
  rw [hp] at ha
  cases ha
  have h8:=ho.zero bb hlt
  have h9:own col0 1 bb:=hown
  unfold own at h9
  omega)
 clear ho hW3 hX h30 hrd hb2 hrn HBO HB1 hd0
 go_wp2_with ((try rw [HX.out]);(with_reducible refine z1f D H30.out ?_ ?_ ?_);rfl;rfl;rw [HW3.out])
 refine hap.mono ?_
 rintro e w4 ⟨rfl,ht⟩
 obtain⟨col4,h4⟩:=HO3.out.act ht
 have hdr:=disk_drop h4.dk (by have:=HF1.out.1;omega) (by have:=HF1.out.2.1;omega) x
 have HO4:=hid h4
 clear ht h4 hap HO3 H30 HW3 HX
 go_wp2_with fail
 refine hdr.mono ?_
 rintro e w5 ⟨rfl,ht⟩
 obtain⟨col5,h5⟩:=HO4.out.act ht
 have hsy:=disk_sync h5.dk (by have:=HF2.out.1;omega) (by have:=HF2.out.2;omega)
 have HO5:=hid h5
 clear ht h5 hdr HO4
 go_wp2_with fail
 refine hsy.mono ?_
 rintro e w6 ⟨rfl,ht⟩
 obtain⟨col6,h6⟩:=HO5.out.act ht
 have HO6:=hid h6
 have hwt:=z6s h6.rd h6.hQ ⟨1,0,p,nk,c,b,0⟩ ⟨SlG.later HBL.out h6.below,(fun h0 a ha=>by
  obtain⟨bb,off,hp,hlt,_⟩:=BL.at HBL.out h0
  have ha':p=some a:=ha
  rw [hp] at ha'
  cases ha'
  have:=h6.xw
  exact⟨h6.zero bb hlt,by show bb≠X;omega⟩),(by show 1≤3;omega)⟩ (by have:=HF0.out.1;omega) (by have:=HF0.out.2.1;omega) HF0.out.2.2
 rw [wd_grow,HE.out] at hwt
 clear ht h6 hsy HO5
 go_wp2_with ((with_reducible refine z2b HO6.out.box ?_ ?_);rfl)
 refine hwt.mono ?_
 rintro e w7 ⟨D7,rfl,hd7,hb7⟩
 have h7:=HO6.out.ref hb7 hd7
 obtain⟨W7,hW7⟩:∃ W7,w7.setRow X D7.cs=W7:=⟨_,rfl⟩
 rw [hW7] at h7
 have HW7:=hid hW7
 have HO7:=hid h7
 have HX7:Hid (DBx w7 X D):=hid (z0b HO6.out.box hb7)
 have hwt:=z6s h7.rd h7.hQ ⟨2,0,none,0,0,[],x⟩ ⟨SlG.empty _,(fun h=>absurd h (by simp)),(by show 2≤3;omega)⟩ (by have:=HF1.out.1;omega) (by have:=HF1.out.2.1;omega) HF1.out.2.2
 rw [wd_drop] at hwt
 clear hd7 hb7 h7 hW7 HO6
 go_wp2_with (first | ((with_reducible refine z1f D7 HX7.out ?_ ?_ ?_);rfl;rfl;rw [HW7.out]) | ((with_reducible refine z2b HO7.out.box ?_ ?_);rfl))
 refine hwt.mono ?_
 rintro e w8 ⟨D8,rfl,hd8,hb8⟩
 have hd8':RdN w8 (fun k=>col6 k=0∧k≠X) D8 ((d0.app b).add (.drop x)):=hd8
 have h8:=HO7.out.ref hb8 hd8'
 obtain⟨W8,hW8⟩:∃ W8,w8.setRow X D8.cs=W8:=⟨_,rfl⟩
 rw [hW8] at h8
 have HW8:=hid hW8
 have HO8:=hid h8
 have HX8:Hid (DBx w8 X D7):=hid (z0b HO7.out.box hb8)
 have hsy:=rdn_sync h8.rd h8.hQ (by have:=HF2.out.1;omega)
 clear hd8 hd8' hb8 h8 hW8 HO7 HX7 HW7 hwt
 go_wp2_with (first | ((with_reducible refine z1f D8 HX8.out ?_ ?_ ?_);rfl;rfl;rw [HW8.out]) | ((with_reducible refine z2b HO8.out.box ?_ ?_);rfl))
 refine hsy.mono ?_
 rintro e w9 ⟨D9,rfl,hd9,hb9⟩
 have h9:=HO8.out.ref hb9 hd9
 obtain⟨W9,hW9⟩:∃ W9,w9.setRow X D9.cs=W9:=⟨_,rfl⟩
 rw [hW9] at h9
 have HW9:=hid hW9
 have HO9:=hid h9
 have HX9:Hid (DBx w9 X D8):=hid (z0b HO8.out.box hb9)
 clear hd9 hb9 h9 hW9 HO8 HX8 HW8 hsy
 generalize ((d0.app b).add (.drop x)).sync=d9 at *
 go_wp2_with ((with_reducible refine z1f D9 HX9.out ?_ ?_ ?_);rfl;rfl;rw [HW9.out])
 clear HX9 HW9
 have hop:Calls Tryz.prog 13 #[.pointer (some ⟨B,0,none⟩),.int .i64 y,.int .i64 x] W9.drew (LB W9.drew col6 B (LS.start d9 y x)):=z9s (HO9.out.dk.later (Below.refl _ _).drew) (by have:=HF3.out.1;omega) (by have:=HF3.out.2.1;omega) y x
 have hQn:∀ k,own col6 1 k→W.heap.size≤k:=fun k hk=>by
  rcases Nat.lt_or_ge k W.heap.size with h1 | h1
  · have:=HO9.out.zero k h1
    unfold own at hk
    omega
  · exact h1
 have HQN:=hid hQn
 have HOP:=hid hop
 have HSM:=hid (start_small d9 HF3.out.2.2.2 HF3.out.1 y x)
 have HDM:Hid (d9.tot≤1000000∧d9.L.length≤1000∧d9.M≤1048576):=hid (by have:=HF3.out;exact⟨by omega,by omega,this.2.2.1⟩)
 have n0:∀ k,col6 k=0∧k≠X→¬ own col6 1 k:=fun k hk ho=>by unfold own at ho;omega
 have nX:¬ own col6 1 X:=fun ho=>by have:=HO9.out.x0;unfold own at ho;omega
 have HRD:Hid (∀ w',Chg (own col6 1) W9 w'→RdN w' (fun k=>col6 k=0∧k≠X) D9 d9∧DBx w' X D9∧Below W.heap.size W w'):=hid fun w' hc=>⟨HO9.out.rd.keep hc n0,(hc.block X (z0k HO9.out.box) nX).trans HO9.out.box,hc.below HO9.out.below HO9.out.below.size HQN.out⟩
 clear hop hQn n0 nX HF0 HF1 HF2 HF3 HE HO9 HQN HBL
 have hbd:Hid (Chg (own col6 1) W9 W9.drew):=hid (Chg.of_below (Below.refl _ _).drew)
 refine wp_region_held_drew (S:=fun w'=>Hid (Chg (own col6 1) W9 w')) (by kernel_rfl) hbd (fun hHeld=>?_)
 clear hbd
 refine wpAnyH_take (i:=0) (oi:=⟨some 40,_,_,_,_,_⟩) (v:=.pointer (some ⟨B,0,none⟩)) rfl (by kernel_rfl) (by kernel_rfl) (by kernel_rfl) (fun _ _ _ h=>h) (Or.inl ⟨by rfl,fun w' hw'=>?_⟩) (by assumption) ?_
 · clear hHeld
   go_simp
 simp only [Act.put,sIB,sCZ,sCS]
 refine wpAnyH_take (i:=1) (oi:=⟨some 41,_,_,_,_,_⟩) (v:=.pointer (some ⟨B,0,none⟩)) rfl (by kernel_rfl) (by kernel_rfl) (by kernel_rfl) (fun _ _ _ h=>h) (Or.inl ⟨by rfl,fun w' hw'=>?_⟩) (by assumption) ?_
 · clear hHeld
   go_simp
 simp only [Act.put,sIB,sCZ,sCS]
 refine wpAnyH_take (i:=2) (oi:=⟨some 42,_,_,_,_,_⟩) (v:=.int .i64 y) rfl (by kernel_rfl) (by kernel_rfl) (by kernel_rfl) (fun _ _ _ h=>h) (Or.inl ⟨by rfl,fun w' hw'=>?_⟩) (by assumption) ?_
 · clear hHeld
   go_simp
 simp only [Act.put,sIB,sCZ,sCS]
 refine wpAnyH_take (i:=3) (oi:=⟨some 43,_,_,_,_,_⟩) (v:=.int .i64 x) rfl (by kernel_rfl) (by kernel_rfl) (by kernel_rfl) (fun _ _ _ h=>h) (Or.inl ⟨by rfl,fun w' hw'=>?_⟩) (by assumption) ?_
 · clear hHeld
   go_simp
 simp only [Act.put,sIB,sCZ,sCS]
 refine wpAnyH_take (i:=5) (oi:=⟨some 45,_,_,_,_,_⟩) (v:=.agg D9.cs) rfl (by kernel_rfl) (by kernel_rfl) (by kernel_rfl) (fun _ _ _ h=>h) (Or.inl ⟨by rfl,fun w' hw'=>z4r rfl (HRD.out w' hw'.out).2.1⟩) (by assumption) ?_
 simp only [Act.put,sIB,sCZ,sCS]
 refine wpAnyH_take (i:=6) (oi:=⟨some 46,_,_,_,_,_⟩) (v:=.int .i64 y) rfl (by kernel_rfl) (by kernel_rfl) (by kernel_rfl) (fun _ _ _ h=>h) (Or.inl ⟨by rfl,fun w' hw'=>?_⟩) (by assumption) ?_
 · clear hHeld
   go_simp
 simp only [Act.put,sIB,sCZ,sCS]
 refine wpAnyH_take (i:=7) (oi:=⟨some 47,_,_,_,_,_⟩) (v:=.int .i64 x) rfl (by kernel_rfl) (by kernel_rfl) (by kernel_rfl) (fun _ _ _ h=>h) (Or.inl ⟨by rfl,fun w' hw'=>?_⟩) (by assumption) ?_
 · clear hHeld
   go_simp
 simp only [Act.put,sIB,sCZ,sCS]
 refine wpAnyH_ready (rs:=[4]) (by kernel_rfl) (by simp) (AllReadyH.cons rfl (fun K hK=>?_) AllReadyH.nil)
 go_simp
 go_wp2_with fail
 have hop:=HOP.out
 refine hop.mono ?_
 rintro e v1 ⟨G,rfl,_,col1,_,hlg,hc1⟩
 go_wp2_with fail
 have hc1':Chg (own col6 1) W9 v1:=(hHeld.out).trans hc1 fun _ _ h=>h
 have HC1:=hid hc1'
 have HLG:=hid hlg
 clear hop hlg
 refine hK.out _ _ HC1 (fun hHeld2=>?_)
 clear hK K hHeld hc1 hc1'
 have hHeld:=hHeld2
 clear hHeld2
 try simp only [Act.put,sIB,sCZ,sCS]
 have hro:=rlog_open (Q:=fun _=>True) ((HRD.out v1 HC1.out).1.mono fun _ _ _=>trivial) (fun _ _=>trivial) HDM.out.1 HDM.out.2.1 HDM.out.2.2 y x
 refine wpAnyH_ready (rs:=[8]) (by kernel_rfl) (by simp) (AllReadyH.cons rfl (fun K hK=>?_) AllReadyH.nil)
 go_simp
 go_wp2_with fail
 refine hro.mono ?_
 rintro e v2 ⟨g,rfl,hrl,hb2⟩
 go_wp2_with fail
 have hc2:Chg (own col6 1) W9 v2:=HC1.out.trans (Chg.of_below (S:=fun _=>False) hb2) fun _ _ h=>h.elim
 have HC2:=hid hc2
 have hsm:=z4x (HLG.out.later hb2) hrl HSM.out.1 HSM.out.2.1 HSM.out.2.2
 clear hrl hro
 refine hK.out _ _ HC2 (fun hHeld2=>?_)
 clear hK K hHeld hb2 hc2
 have hHeld:=hHeld2
 clear hHeld2
 try simp only [Act.put,sIB,sCZ,sCS]
 refine wpAnyH_ready (rs:=[9]) (by kernel_rfl) (by simp) (AllReadyH.cons rfl (fun K hK=>?_) AllReadyH.nil)
 go_simp
 go_wp2_with fail
 refine hsm.mono ?_
 rintro e v3 ⟨rfl,hb3⟩
 go_wp2_with fail
 have hc3:Chg (own col6 1) W9 v3:=HC2.out.trans (Chg.of_below (S:=fun _=>False) hb3) fun _ _ h=>h.elim
 have HC3:=hid hc3
 have hwk:=wal_works v3 (HWD.out.later (HRD.out v3 hc3).2.2)
 clear hsm
 refine hK.out _ _ HC3 (fun hHeld2=>?_)
 clear hK K hHeld hb3 hc3
 have hHeld:=hHeld2
 clear hHeld2
 try simp only [Act.put,sIB,sCZ,sCS]
 refine wpAnyH_take (i:=10) (oi:=⟨some 50,_,_,_,_,_⟩) (v:=.bool true) rfl (by kernel_rfl) (by kernel_rfl) (by kernel_rfl) (fun _ _ _ h=>h) (Or.inl ⟨by rfl,fun w' hw'=>?_⟩) (by assumption) ?_
 · clear hHeld
   go_simp
 simp only [Act.put,sIB,sCZ,sCS]
 refine wpAnyH_ready (rs:=[11]) (by kernel_rfl) (by simp) (AllReadyH.cons rfl (fun K hK=>?_) AllReadyH.nil)
 go_simp
 go_wp2_with fail
 refine hwk.mono ?_
 rintro e v4 ⟨rfl,hb4⟩
 go_wp2_with fail
 have hc4:Chg (own col6 1) W9 v4:=HC3.out.trans (Chg.of_below (S:=fun _=>False) hb4) fun _ _ h=>h.elim
 have HC4:=hid hc4
 clear hwk
 refine hK.out _ _ HC4 (fun hHeld2=>?_)
 clear hK K hHeld hb4 hc4
 have hHeld:=hHeld2
 clear hHeld2
 try simp only [Act.put,sIB,sCZ,sCS]
 refine wpAnyH_take (i:=12) (oi:=⟨some 52,_,_,_,_,_⟩) (v:=.bool true) rfl (by kernel_rfl) (by kernel_rfl) (by kernel_rfl) (fun _ _ _ h=>h) (Or.inl ⟨by rfl,fun w' hw'=>?_⟩) (by assumption) ?_
 · clear hHeld
   go_simp
 simp only [Act.put,sIB,sCZ,sCS]
 refine wpAnyH_take (i:=13) (oi:=⟨some 6,_,_,_,_,_⟩) (v:=.bool true) rfl (by kernel_rfl) (by kernel_rfl) (by kernel_rfl) (fun _ _ _ h=>h) (Or.inl ⟨by rfl,fun w' hw'=>?_⟩) (by assumption) ?_
 · clear hHeld
   go_simp
 simp only [Act.put,sIB,sCZ,sCS]
 refine wpAnyH_done (by kernel_rfl) ?_ _
 have HBF:=hid (HRD.out _ hHeld.out).2.2
 clear hHeld
 go_wp2_with fail
 go_ret
 exact⟨rfl,HBF.out⟩
end Go.Proofs.YtfdgnniicjdjdaaGreatDoor
