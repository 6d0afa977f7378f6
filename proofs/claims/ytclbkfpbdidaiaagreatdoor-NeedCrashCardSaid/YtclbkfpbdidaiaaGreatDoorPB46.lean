import Derived.Test.YtclbkfpbdidaiaaGreatDoorPB37
import Derived.Deep.WholeRow
namespace Go.Proofs.YtclbkfpbdidaiaaGreatDoor
open Go.RowKit Go.ChangeShapes Go.WideShapes
set_option linter.unusedVariables false
set_option linter.unusedSimpArgs false
set_option maxRecDepth 10000
theorem app_fits {c c':Crs} {X:Rx} (h:appX c X=(c',0)):z2s c=true∧z9g c X=true:=by
 unfold appX at h
 split at h
 · cases h
 rename_i h0
 split at h
 · cases h
 split at h
 · cases h
 rename_i h2
 exact⟨by simpa using h0,by simpa using h2⟩
theorem aft_P (c:Crs) (X:Rx):(q0n c X).P=c.P:=by
 unfold q0n
 split
 · rfl
 split
 · rfl
 split
 · rfl
 split
 · rfl
 split
 · rfl
 · rfl
theorem si_P {P:Pg} {R:Int} {c:Crs} {M:List Tc} {m:Int} (h:SI P R c M m):c.P=P:=by
 cases h <;> rfl
structure FStep (P:Pg) (R:Int) (K:List Bool) (c:Crs) (M:List Tc) (H:List Rx) (i:Nat) (X:Rx) (c':Crs) (M':List Tc):Prop where
 x:X=z1u c M R ((i:Int)+1) (z3x K i)
 good:z1q X=true
 ok:Rxok X
 k2:2≤X.k
 k9:X.k≤9
 app:appX c X=(c',0)
 jn:X.k≤7→appC M 0 X=(M',0)
 same:¬ X.k≤7→M'=M
 go:X.k≠9→Fol P R K c' M' (H ++ [X]) (i+1)
 fin:X.k=9→FolEnd R K H X
 out:HOut (P:=P) (R:=R) c M X c' M'
 crok:Crok c'
 jok:JOk M'
 cp:c'.P=P
 pg:X.pg=noP
 gp:z2s c=true
theorem Fol.jok {P:Pg} {R:Int} {K:List Bool} {c:Crs} {M:List Tc} {H:List Rx} {i:Nat} (h:Fol P R K c M H i) (hi:i≤159):JOk M:=h.ts.mono (by omega) (by omega)
theorem q3h {P:Pg} {R:Int} (hg:z0l 4 4 P=true) (hok:Pgok P) (hR:0≤R∧R≤4) {K:List Bool} {c:Crs} {M:List Tc} {H:List Rx} {i:Nat} (h:Fol P R K c M H i):i≤158∧Crok c∧c.P=P:=by
 obtain⟨m,hsi,hm⟩:=h.si
 have:=si_pos hok hg hR hsi
 exact⟨by omega,si_crok hok hg hR hsi,si_P hsi⟩
theorem q1y {P:Pg} {R:Int} (hg:z0l 4 4 P=true) (hok:Pgok P) (hR:0≤R∧R≤4) {K:List Bool} {c:Crs} {M:List Tc} {H:List Rx} {i:Nat} (h:Fol P R K c M H i) (hz:SZ P M):∃ X c' M',FStep P R K c M H i X c' M':=by
 obtain⟨X,c',M',hX,h1,h2,h3,h4,h5,h6,h7,h8,h9,h10⟩:=Fol.step hg hok hR h
 obtain⟨m,hsi,hm⟩:=h.si
 obtain⟨hi,hc,hcp⟩:=q3h hg hok hR h
 obtain⟨c2,M2,ho⟩:=step_any hg hok hR hsi (z3x K i) (id:=(i:Int)+1) ⟨by omega,by omega⟩
 have hh:=hold_step hg hok hR hsi hz (z3x K i) ((i:Int)+1) ho
 have e1:c2=c':=by
  have:=ho.app
  rw [← hX,h5] at this
  exact (Prod.mk.inj this).1.symm
 have e2:M2=M':=by
  by_cases h7':X.k≤7
  · have a1:=h6 h7'
    have a2:=ho.jn (by rw [← hX];exact h7')
    rw [← hX,a1] at a2
    exact (Prod.mk.inj a2).1.symm
  · rw [h7 h7',ho.same (by rw [← hX];exact h7')]
 rw [e1,e2,← hX] at hh
 obtain⟨g1,g2⟩:=app_fits h5
 have hdet:=(z4w h5).1
 refine⟨X,c',M',hX,h1,h2,h3,h4,h5,h6,h7,h8,h9,hh,?_,?_,?_,?_,g1⟩
 · rw [hdet]
   exact aft_ok hc g1 h2 g2
 · by_cases hk9:X.k=9
   · rw [h7 (by omega)]
     exact h.jok (by omega)
   · exact (h8 hk9).jok (by omega)
 · rw [hdet,aft_P,hcp]
 · rw [hX]
   exact nextS_pg _ _ _ _ _
theorem q2l {M:List Tc} (h:JOk M):(∀ o∈(tOf M).dn,Ook o)∧(tOf M).dn.length≤20∧(0≤(tOf M).sz∧(tOf M).sz≤1000000000000000000):=by
 unfold tOf
 cases hgt:getT Tc.sg M 1 with
 | none=>exact⟨(fun o ho=>by cases ho),by decide,by decide,by decide⟩
 | some t =>
  have hm:=(z6e hgt).1
  have hs:=h.sz t hm
  exact⟨(h.ok t hm).dn,h.few t hm,hs.1,by have:=hs.2;show t.sz≤1000000000000000000;omega⟩
theorem z5d {w:World} {c:Cv} {L:List Ln} {T:List Tk} {M:List Ln} (h:CvM w c L T M) {P:Pg} (hp:(c.x L T M).P=P) (hg:z0l 4 4 P=true):c.p.ln≤400∧c.p.tn≤400∧c.p.wn≤400:=by
 obtain⟨h1,h2,h3⟩:=z8x (P:=c.p.pg L T M) (by rw [show c.p.pg L T M=P from hp];exact hg)
 have g1:=h.l.len
 have g2:=h.t.len
 have g3:=h.o.len
 have h1':L.length≤3:=h1
 have h2':T.length≤12:=h2
 have h3':M.length≤3:=h3
 omega
theorem z3i (t:Tv) {ops:Array Oper} {rest:List Oper} {a:Act} {w0:World} {Q:Exit→Act→World→Prop} {dst:Option Tmp} {x y:Operand} {ty:TypeId} {pos:String} {after:Array Edge} {old:Array Value} (ho:old.size=8)
 (hx:a.eval x=.pointer (some ⟨w0.heap.size,0,none⟩)) (hy:a.eval y=.agg #[.int .u32 t.c.id,.int .u32 t.c.sg,.int .u8 t.c.st,.bool t.c.cp,.bool t.c.dd,.slice t.p t.n t.m,.int .i64 t.c.fs,.int .i64 t.c.sz])
 (h:wpList Tryz.prog ops Q rest (a.put dst undef) (w0.alloc (.cells #[.int .u32 t.c.id,.int .u32 t.c.sg,.int .u8 t.c.st,.bool t.c.cp,.bool t.c.dd,.slice t.p t.n t.m,.int .i64 t.c.fs,.int .i64 t.c.sz] 46))):wpList Tryz.prog ops Q (Oper.mk dst (.store 46 x y) ty pos after none::rest) a (w0.alloc (.cells old 46)):=by
 refine wpList_store_row rfl 46 x y rfl w0.heap.size #[.int .u32 t.c.id,.int .u32 t.c.sg,.int .u8 t.c.st,.bool t.c.cp,.bool t.c.dd,.slice t.p t.n t.m,.int .i64 t.c.fs,.int .i64 t.c.sz] hx hy 46 old (z0c _ _) (by kernel_rfl) (by rw [ho];rfl) (by simp [Value.oneCell']) ?_
 rw [World.setRow_alloc_new]
 exact h
theorem z3j (r:Rv) {ops:Array Oper} {rest:List Oper} {a:Act} {w0:World} {Q:Exit→Act→World→Prop} {dst:Option Tmp} {x y:Operand} {ty:TypeId} {pos:String} {after:Array Edge} {old:Array Value} (ho:old.size=20)
 (hx:a.eval x=.pointer (some ⟨w0.heap.size,0,none⟩)) (hy:a.eval y=.agg (rcs r))
 (h:wpList Tryz.prog ops Q rest (a.put dst undef) (w0.alloc (.cells (rcs r) 42))):wpList Tryz.prog ops Q (Oper.mk dst (.store 42 x y) ty pos after none::rest) a (w0.alloc (.cells old 42)):=by
 refine wpList_store_row rfl 42 x y rfl w0.heap.size (rcs r) hx hy 42 old (z0c _ _) (by kernel_rfl) (by rw [ho];rfl) (q1f r) ?_
 rw [World.setRow_alloc_new]
 exact h
theorem wpList_storen_cr (c:Cv) {ops:Array Oper} {rest:List Oper} {a:Act} {w0:World} {Q:Exit→Act→World→Prop} {dst:Option Tmp} {x y:Operand} {ty:TypeId} {pos:String} {after:Array Edge} {old:Array Value} (ho:old.size=15)
 (hx:a.eval x=.pointer (some ⟨w0.heap.size,0,none⟩)) (hy:a.eval y=.agg (ccs c))
 (h:wpList Tryz.prog ops Q rest (a.put dst undef) (w0.alloc (.cells (ccs c) 34))):wpList Tryz.prog ops Q (Oper.mk dst (.store 34 x y) ty pos after none::rest) a (w0.alloc (.cells old 34)):=by
 refine wpList_store_row rfl 34 x y rfl w0.heap.size (ccs c) hx hy 34 old (z0c _ _) (by kernel_rfl) (by rw [ho];rfl) (q2z c) ?_
 rw [World.setRow_alloc_new]
 exact h
theorem wpList_load_ypl {ops:Array Oper} {rest:List Oper} {a:Act} {w:World} {Q:Exit→Act→World→Prop} {dst:Option Tmp} {x:Operand} {ty:TypeId} {pos:String} {after:Array Edge} {B:Nat} {y:Yv} (hC:YB w B y) (hx:a.eval x=.pointer (some ⟨B,0,none⟩))
 (h:wpList Tryz.prog ops Q rest (a.put dst (.agg #[.int .u8 y.p.pk,.int .u32 y.p.od,.int .u8 y.p.po,.slice y.p.lp y.p.ln y.p.lcp,.slice y.p.tp y.p.tn y.p.tcp,.slice y.p.wp y.p.wn y.p.wcp,.int .u8 y.p.sk,.int .u8 y.p.fr,.int .u8 y.p.to,.int .i64 y.p.q])) w):wpList Tryz.prog ops Q (Oper.mk dst (.load 26 x) ty pos after none::rest) a w :=
 z1t hC hx h
abbrev FoN (Ju:World→Nat→List Tc→(Nat→Prop)→Prop) (W wr:World) (A B:Nat) (Q:Nat→Prop) (c:Cv) (L:List Ln) (T:List Tk) (M:List Ln) (J:List Tc):Prop:=FoM Ju W wr A B Q c L T M J (.slice none 0 0) []
theorem FoN.start {Ju:World→Nat→List Tc→(Nat→Prop)→Prop} {W w0 w:World} {A B:Nat} {Q:Nat→Prop} {c:Cv} {L:List Ln} {T:List Tk} {M:List Ln} {J:List Tc} (hb0:Below W.heap.size W w0) (hm:CvM w0 c L T M) (hb:Below w0.heap.size w0 w) (hc:CB w A c) (hA:w0.heap.size≤A) (hj:Ju w B J Q) (hq:∀ j,Q j→w0.heap.size≤j) (hqa:¬ Q A):FoN Ju W w A B Q c L T M J:=by
 refine⟨hc,PgM.later hm hb,?_,hj,hqa,fun j hj=>?_,World.ownsRow_nil _ _ _ _,(fun h=>by cases h),(fun j h=>by cases h),hb0.trans (hb.mono hb0.size)⟩
 · refine Off.grow (w:=w0) (S:=fun _=>False) ⟨fun _ _ _ h=>h,fun _ _ _ h=>h,fun _ _ _ h=>h⟩ hm fun j hj=>.inr ?_
   rcases hj with e | h | h
   · rw [e];exact hA
   · exact hq j h
   · cases h
 · have:=hb0.size
   rcases hj with e | h | h
   · rw [e];omega
   · have:=hq j h;omega
   · cases h
theorem FoM.lt2 {Ju:World→Nat→List Tc→(Nat→Prop)→Prop} {W wr:World} {A B:Nat} {Q:Nat→Prop} {c:Cv} {L:List Ln} {T:List Tk} {M:List Ln} {J:List Tc} {v:Value} {H:List Rv} (h:FoM Ju W wr A B Q c L T M J v H) (I:JnF Words Ju):∀ j,fblk A Q v j→j<wr.heap.size:=FoM.lt I h
end Go.Proofs.YtclbkfpbdidaiaaGreatDoor
namespace Go.Proofs.YtclbkfpbdidaiaaGreatDoor
open Go.RowKit
set_option linter.unusedVariables false
set_option linter.unusedSimpArgs false
set_option maxRecDepth 10000
def z5e (c:Crs):Crs:={ c with tx:=0 }
def tkM:List Tc→Int
 | []=>0
 | t::_=>22*(t.dn.length:Int)+11
inductive UR (c0:Crs) (M0:List Tc):Crs→List Tc→Int→Nat→Prop
 | shut:UR c0 M0 (z5e c0) [] (tkM M0) 0
 | undo (t:Tc) (tk:Int) (hiQ:t.id=c0.tx) (hsg:t.sg=1) (hne:c0.tx≠0) (hin:0≤c0.tx∧c0.tx≤4294967295) (hf:∀ o∈t.dn,FineO o) (htk:tk+22*(t.dn.length:Int)+11=tkM M0):UR c0 M0 c0 [t] tk (t.dn.length+1)
structure UOut (c0:Crs) (M0:List Tc) (c:Crs) (M:List Tc) (tk:Int) (r:Nat) (X:Rx) (c':Crs) (M':List Tc):Prop where
 good:z1q X=true
 ok:Rxok X
 pg:X.pg=noP
 app:appX c X=(c',0)
 jn:appC M 0 X=(M',0)
 pos:0≤z0z X∧z0z X≤22
 nx:UR c0 M0 c' M' (tk+z0z X) r
 open_:(getT Tc.sg M' 1).isSome=decide (0<r)
theorem ur_open {c0:Crs} {M0:List Tc} {c:Crs} {M:List Tc} {tk:Int} {r:Nat} (h:UR c0 M0 c M tk r):(getT Tc.sg M 1).isSome=decide (0<r):=by
 cases h with
 | shut=>rfl
 | undo t tk hiQ hsg hne hin hf htk=>simp [getT,hsg]
theorem ur_shut {c0:Crs} {M0:List Tc} {c:Crs} {M:List Tc} {tk:Int} (h:UR c0 M0 c M tk 0):c=z5e c0∧M=[]∧tk=tkM M0:=by
 generalize hr:(0:Nat)=r at h
 cases h with
 | shut=>exact⟨rfl,rfl,rfl⟩
 | undo t tk hiQ hsg hne hin hf htk=>omega
theorem ur_same {c0:Crs} {M0:List Tc} {c:Crs} {M:List Tc} {tk:Int} {r:Nat} (h:UR c0 M0 c M tk (r+1)):c=c0:=by
 generalize hr:r+1=r1 at h
 cases h with
 | shut=>omega
 | undo t tk hiQ hsg hne hin hf htk=>rfl
theorem drop_mem {L:List O} {o:O} (h:o∈L.dropLast):o∈L:=List.mem_of_mem_take (by rw [List.dropLast_eq_take] at h;exact h)
theorem ur_step {c0:Crs} {M0:List Tc} (hg:z2s c0=true) {c:Crs} {M:List Tc} {tk:Int} {r:Nat} (h:UR c0 M0 c M tk (r+1)):∃ X c' M',X=z4x (tOf M)∧UOut c0 M0 c M tk r X c' M':=by
 generalize hr:r+1=r1 at h
 cases h with
 | shut=>omega
 | undo t tk hiQ hsg hne hin hf htk =>
  have hto:tOf [t]=t:=z5h hsg
  have hge:getT Tc.id [t] c0.tx=some t:=by
   have:=z9a t
   rwa [hiQ] at this
  rw [hto]
  obtain⟨n,hn⟩:∃ n,t.dn.length=n:=⟨_,rfl⟩
  cases n with
  | zero =>
   have hl:=z5r hn
   have hu:z4x t=recK 7 0 c0.tx 0 false (0,0,0) 0 0:=by
    unfold z4x
    rw [hl,if_neg (by simp),hiQ]
   have hgx:=q4c 7 (.inr (.inr rfl)) c0.tx hne
   have hz:z0z (recK 7 0 c0.tx 0 false (0,0,0) 0 0)=11:=z2k hgx (show (7:Int)≠1 by decide)
   have hr0:r=0:=by omega
   subst hr0
   refine⟨_,z5e c0,[],rfl,?_⟩
   rw [hu]
   refine⟨hgx,z5i (by decide) (by decide) hin (by decide) k000 in0 (by decide),rfl,?_,?_,by rw [hz];exact⟨by decide,by decide⟩,?_,rfl⟩
   · rw [z3t hg hgx (show (7:Int)≠1 by decide) (by
      show (c0.tx==c0.tx)=true
      simp)]
     rfl
   · rw [q4f [t] _ hgx rfl hge,if_pos (List.length_eq_zero_iff.1 hn)]
     show (z2f Tc.id [t] c0.tx,(0:Int))=_
     rw [← hiQ,q0r]
   · rw [hz]
     have e:tk+11=tkM M0:=by rw [hn] at htk;simp only [Int.ofNat_zero,Int.natCast_zero] at *;omega
     rw [e]
     exact .shut
  | succ j =>
   have hfo:=hf _ (z6f t.dn j (by omega))
   have hl:z3a t=(((t.dn.getD j o0).1,-(t.dn.getD j o0).2),true):=by
    rw [z8a hn,if_neg (by have:=hfo.lo;omega)]
   have hu:z4x t=recK 6 0 c0.tx 0 false (t.dn.getD j o0).1 (-(t.dn.getD j o0).2) 0:=by
    unfold z4x
    rw [hl,if_pos rfl,hiQ]
   have hfn:FineO ((t.dn.getD j o0).1,-(t.dn.getD j o0).2):=⟨hfo.key,by have:=hfo.ne;show -(t.dn.getD j o0).2≠0;omega,by have:=hfo.hi;show _≤-(t.dn.getD j o0).2;omega,by have:=hfo.lo;show -(t.dn.getD j o0).2≤_;omega,hfo.kok⟩
   have hgx:=q4m 6 (.inr rfl) c0.tx ((t.dn.getD j o0).1,-(t.dn.getD j o0).2) hne hfn
   have hz:z0z (recK 6 0 c0.tx 0 false (t.dn.getD j o0).1 (-(t.dn.getD j o0).2) 0)=22:=z2k hgx (show (6:Int)≠1 by decide)
   have hr0:r=j+1:=by omega
   subst hr0
   have hdl:t.dn.dropLast.length=j:=by rw [List.length_dropLast];omega
   refine⟨_,c0,[⟨t.id,t.sg,t.st,t.cp,true,t.dn.dropLast,t.fs,t.sz+z0z (recK 6 0 c0.tx 0 false (t.dn.getD j o0).1 (-(t.dn.getD j o0).2) 0)⟩],rfl,?_⟩
   rw [hu]
   refine⟨hgx,z5i (by decide) (by decide) hin (by decide) hfn.kok (by have h1:=hfn.lo;have h2:=hfn.hi;unfold In64;simp only at h1 h2;omega) (by decide),rfl,?_,?_,by rw [hz];exact⟨by decide,by decide⟩,?_,?_⟩
   · rw [z3t hg hgx (show (6:Int)≠1 by decide) (by
      show (c0.tx==c0.tx)=true
      simp)]
     rfl
   · rw [q4g [t] _ hgx rfl hge,if_pos (by exact hl),z4y (by rfl)]
   · rw [hz]
     have:=UR.undo (c0:=c0) (M0:=M0) ⟨t.id,t.sg,t.st,t.cp,true,t.dn.dropLast,t.fs,t.sz+22⟩ (tk+22) hiQ hsg hne hin (fun o ho=>hf o (drop_mem ho)) (by
      show tk+22+22*(t.dn.dropLast.length:Int)+11=tkM M0
      rw [hdl]
      rw [hn] at htk
      omega)
     rw [show (Tc.dn ⟨t.id,t.sg,t.st,t.cp,true,t.dn.dropLast,t.fs,t.sz+22⟩).length=j from hdl] at this
     exact this
   · simp [getT,hsg]
section
variable {P:Pg} {R:Int} (hg:z0l 4 4 P=true) (hok:Pgok P) (hR:0≤R∧R≤4)
include hg hok hR
structure Crash (P:Pg) (R:Int) (c:Crs) (M:List Tc):Prop where
 ur:∃ r,UR c M c M 0 r∧r≤7
 took:tkM M≤hdC c M R
 after:z1p (z5e c) false 0 R≤hdC c M R+(tOf M).sz
 most:z1p (z5e c) false 0 R≤z1p (crs0 P) false 0 R
 nn:0≤hdC c M R∧hdC c M R≤10000∧0≤(tOf M).sz∧(tOf M).sz≤10000∧0≤z1p (z5e c) false 0 R
theorem crash_any {c:Crs} {M:List Tc} {m:Int} (h:SI P R c M m) (hz:SZ P M) (hts:JOk M):Crash P R c M:=by
 have ha:=q0w hg hok hR
 have ha3:attP P≤303:=by
  have h:=failL_le (z0h P) 303 (by omega) (fun s hs=>q1z ((z1c hg hok).2 s hs)) (z0h P).length (Nat.le_refl _)
  rw [z6s] at h
  exact h
 have hn5:1≤lenA P∧lenA P≤5:=by
  have:=(z1c hg hok).1
  unfold lenA
  omega
 have hpl:=passL_le (z0h P) (fun s hs=>(z1c hg hok).2 s hs)
 have hpl':z1i (z0h P)≤800:=by unfold lenA at hn5;omega
 have h00:=z2b hg hok hR 0 0 0 ⟨Int.le_refl 0,by omega⟩ ⟨Int.le_refl 0,by omega⟩
 rw [show (0:Int).toNat=0 from rfl,List.drop_zero,Int.sub_zero] at h00
 have hc0:=z8e hg (dd:=false) (sz:=0) (retry:=R)
 have hc0':z1p (crs0 P) false 0 R=z1i (z0h P)+(R+1)*attP P+z1i (z0h P)+23+attP P:=by
  rw [hc0]
  show z2q ⟨1,P,false,0,0,0⟩ R+attP P=_
  rw [h00]
 have hR5:(R+1)*attP P≤1515:=by
  have:=Int.mul_le_mul (show R+1≤5 by omega) ha3 (by omega) (by omega)
  omega
 have hp2:=z1f (z0h P)
 have hfw:∀ s tr:Int,0≤s→0≤tr→tr≤R+1→z1i ((z0h P).drop s.toNat)+(R+1-tr)*attP P≤z1i (z0h P)+(R+1)*attP P∧0≤z1i ((z0h P).drop s.toNat)+(R+1-tr)*attP P:=by
  intro s tr h1 h2 h3
  have g1:=z7h (z0h P) s.toNat
  have g2:=z1f ((z0h P).take s.toNat)
  have g3:=z1f ((z0h P).drop s.toNat)
  have g4:=Int.mul_nonneg h2 (show 0≤attP P by omega)
  have g5:=Int.mul_nonneg (show 0≤R+1-tr by omega) (show 0≤attP P by omega)
  have g6:(R+1-tr)*attP P=(R+1)*attP P-tr*attP P:=by rw [Int.sub_mul]
  exact⟨by omega,by omega⟩
 have hbk:∀ s:Int,z1i ((z0h P).take s.toNat)≤z1i (z0h P)∧0≤z1i ((z0h P).take s.toNat):=by
  intro s
  have g1:=z7h (z0h P) s.toNat
  have g3:=z1f ((z0h P).drop s.toNat)
  exact⟨by omega,z1f _⟩
 have hRn:=Int.mul_nonneg (show 0≤R+1 by omega) (show 0≤attP P by omega)
 cases h with
 | free s tr h ht =>
  have h1:=z3d hg hok hR false s tr h ht.1 false 0
  rw [z2b hg hok hR s tr 0 h ht] at h1
  have h2:=hfw s tr h.1 ht.1 ht.2
  have e:z5e ⟨1,P,false,s,tr,0⟩=⟨1,P,false,s,tr,0⟩:=rfl
  refine⟨⟨0,?_,by omega⟩,?_,?_,?_,?_⟩
  · have:=UR.shut (c0:=⟨1,P,false,s,tr,0⟩) (M0:=[])
    rwa [e] at this
  · rw [z3n,h1];show (0:Int)≤_;omega
  · rw [z3n,e,h1];show _≤_+(0:Int);omega
  · rw [e,h1,hc0'];omega
  · rw [z3n,e,h1];refine⟨by omega,by omega,by show (0:Int)≤0;omega,by show (0:Int)≤10000;omega,by omega⟩
 | back s h =>
  have h1:=z3d hg hok hR true s (R+1) h (by omega) false 0
  rw [z3q hg hok hR s (R+1) 0 h (by omega)] at h1
  have h2:=hbk s
  have e:z5e ⟨1,P,true,s,R+1,0⟩=⟨1,P,true,s,R+1,0⟩:=rfl
  refine⟨⟨0,?_,by omega⟩,?_,?_,?_,?_⟩
  · have:=UR.shut (c0:=⟨1,P,true,s,R+1,0⟩) (M0:=[])
    rwa [e] at this
  · rw [z3n,h1];show (0:Int)≤_;omega
  · rw [z3n,e,h1];show _≤_+(0:Int);omega
  · rw [e,h1,hc0'];omega
  · rw [z3n,e,h1];refine⟨by omega,by omega,by show (0:Int)≤0;omega,by show (0:Int)≤10000;omega,by omega⟩
 | op s tr id sz k h ht hiQ hk =>
  have h1:=z3d hg hok hR false s tr ⟨h.1,by omega⟩ ht.1 false 0
  rw [z2b hg hok hR s tr 0 ⟨h.1,by omega⟩ ⟨ht.1,by omega⟩] at h1
  have h2:=hfw s tr h.1 ht.1 (by omega)
  have hL:=q2p hg hok hR s h _ hk
  have hlen:=z2c (opsT (stpA P s)) k hk
  have h6:=z4z (z2t hg hok h)
  have hsz:sz=17+22*(k:Int):=by
   have:=(hz _ (List.mem_singleton.2 rfl)).1 rfl
   rw [show (Tc.dn ⟨id,1,s,false,false,(opsT (stpA P s)).take k,0,sz⟩).length=k from hlen] at this
   exact this
  have h3:=z5k hg hok hR false s tr id ⟨h.1,by omega⟩ ht.1 (by omega) false sz (by rw [ifz,z2b hg hok hR s tr id ⟨h.1,by omega⟩ ⟨ht.1,by omega⟩];omega)
  rw [ifz,z2b hg hok hR s tr id ⟨h.1,by omega⟩ ⟨ht.1,by omega⟩] at h3
  have hto:tOf [⟨id,1,s,false,false,(opsT (stpA P s)).take k,0,sz⟩]=⟨id,1,s,false,false,(opsT (stpA P s)).take k,0,sz⟩:=z5h rfl
  have e:z5e ⟨1,P,false,s,tr,id⟩=⟨1,P,false,s,tr,0⟩:=rfl
  have htk:tkM [⟨id,1,s,false,false,(opsT (stpA P s)).take k,0,sz⟩]=22*(k:Int)+11:=by
   show 22*(((opsT (stpA P s)).take k).length:Int)+11=_
   rw [hlen]
  refine⟨⟨k+1,?_,by omega⟩,?_,?_,?_,?_⟩
  · have:=UR.undo (c0:=⟨1,P,false,s,tr,id⟩) (M0:=[⟨id,1,s,false,false,(opsT (stpA P s)).take k,0,sz⟩]) ⟨id,1,s,false,false,(opsT (stpA P s)).take k,0,sz⟩ 0 rfl rfl (show id≠0 by omega) ⟨by show 0≤id;omega,hiQ.2⟩ (fun o ho=>z4k (z2t hg hok h) o (List.mem_of_mem_take ho)) (by rw [htk];show 0+22*(((opsT (stpA P s)).take k).length:Int)+11=_;rw [hlen];omega)
    rwa [show (Tc.dn ⟨id,1,s,false,false,(opsT (stpA P s)).take k,0,sz⟩).length=k from hlen] at this
  · rw [z3e _ _ _ rfl,htk];show _≤z1p _ false sz R;rw [h3];omega
  · rw [z3e _ _ _ rfl,hto,e,h1];show _≤z1p _ false sz R+sz;rw [h3];omega
  · rw [e,h1,hc0'];omega
  · rw [z3e _ _ _ rfl,hto,e,h1]
    refine⟨?_,?_,?_,?_,by omega⟩
    · show 0≤z1p _ false sz R;rw [h3];omega
    · show z1p _ false sz R≤10000;rw [h3];omega
    · show 0≤sz;omega
    · show sz≤10000;omega
 | dead s tr id sz k h ht hiQ hk =>
  have h1:=z3d hg hok hR false s tr ⟨h.1,by omega⟩ (by omega) false 0
  rw [z2b hg hok hR s tr 0 ⟨h.1,by omega⟩ ⟨by omega,ht.2⟩] at h1
  have h2:=hfw s tr h.1 (by omega) ht.2
  have hlen:=z2c (opsT (stpA P s)) k hk
  have h6:=z4z (z2t hg hok h)
  obtain⟨k0,hk0,hat,hsz⟩:=(hz _ (List.mem_singleton.2 rfl)).2 rfl
  rw [show (Tc.dn ⟨id,1,s,false,true,(opsT (stpA P s)).take k,0,sz⟩).length=k from hlen] at hk0 hsz
  have hsz':sz=28+22*(k0:Int)+22*((k0:Int)-(k:Int)):=hsz
  have h3:=z5k hg hok hR false s tr id ⟨h.1,by omega⟩ (by omega) (by omega) true sz (by rw [ifa,z2b hg hok hR s tr id ⟨h.1,by omega⟩ ⟨by omega,ht.2⟩];omega)
  rw [ifa,z2b hg hok hR s tr id ⟨h.1,by omega⟩ ⟨by omega,ht.2⟩] at h3
  have hto:tOf [⟨id,1,s,false,true,(opsT (stpA P s)).take k,0,sz⟩]=⟨id,1,s,false,true,(opsT (stpA P s)).take k,0,sz⟩:=z5h rfl
  have e:z5e ⟨1,P,false,s,tr,id⟩=⟨1,P,false,s,tr,0⟩:=rfl
  have htk:tkM [⟨id,1,s,false,true,(opsT (stpA P s)).take k,0,sz⟩]=22*(k:Int)+11:=by
   show 22*(((opsT (stpA P s)).take k).length:Int)+11=_
   rw [hlen]
  refine⟨⟨k+1,?_,by omega⟩,?_,?_,?_,?_⟩
  · have:=UR.undo (c0:=⟨1,P,false,s,tr,id⟩) (M0:=[⟨id,1,s,false,true,(opsT (stpA P s)).take k,0,sz⟩]) ⟨id,1,s,false,true,(opsT (stpA P s)).take k,0,sz⟩ 0 rfl rfl (show id≠0 by omega) ⟨by show 0≤id;omega,hiQ.2⟩ (fun o ho=>z4k (z2t hg hok h) o (List.mem_of_mem_take ho)) (by rw [htk];show 0+22*(((opsT (stpA P s)).take k).length:Int)+11=_;rw [hlen];omega)
    rwa [show (Tc.dn ⟨id,1,s,false,true,(opsT (stpA P s)).take k,0,sz⟩).length=k from hlen] at this
  · rw [z3e _ _ _ rfl,htk];show _≤z1p _ true sz R;rw [h3];omega
  · rw [z3e _ _ _ rfl,hto,e,h1];show _≤z1p _ true sz R+sz;rw [h3];omega
  · rw [e,h1,hc0'];omega
  · rw [z3e _ _ _ rfl,hto,e,h1]
    refine⟨?_,?_,?_,?_,by omega⟩
    · show 0≤z1p _ true sz R;rw [h3];omega
    · show z1p _ true sz R≤10000;rw [h3];omega
    · show 0≤sz;omega
    · show sz≤10000;omega
 | undo s id sz k h hiQ hk =>
  have h1:=z3d hg hok hR true s (R+1) ⟨by omega,h.2⟩ (by omega) false 0
  rw [z3q hg hok hR s (R+1) 0 ⟨by omega,h.2⟩ (by omega)] at h1
  have h2:=hbk s
  have hfs:=z2t hg hok (s:=s-1) ⟨by omega,by omega⟩
  have hnl:(negF (opsT (stpA P (s-1)))).length=(opsT (stpA P (s-1))).length:=by
   unfold negF
   rw [List.length_reverse,List.length_map]
  have hL:=q2p hg hok hR (s-1) ⟨by omega,by omega⟩ k (by rw [← hnl];exact hk)
  have hlen:=z2c (negF (opsT (stpA P (s-1)))) k hk
  have h6:=z4z hfs
  have hsz:sz=17+22*(k:Int):=by
   have:=(hz _ (List.mem_singleton.2 rfl)).1 rfl
   rw [show (Tc.dn ⟨id,1,s-1,true,false,(negF (opsT (stpA P (s-1)))).take k,0,sz⟩).length=k from hlen] at this
   exact this
  have h3:=z5k hg hok hR true s (R+1) id ⟨by omega,h.2⟩ (by omega) (by omega) false sz (by rw [ifz,z3q hg hok hR s (R+1) id ⟨by omega,h.2⟩ (by omega)];omega)
  rw [ifz,z3q hg hok hR s (R+1) id ⟨by omega,h.2⟩ (by omega)] at h3
  have hto:tOf [⟨id,1,s-1,true,false,(negF (opsT (stpA P (s-1)))).take k,0,sz⟩]=⟨id,1,s-1,true,false,(negF (opsT (stpA P (s-1)))).take k,0,sz⟩:=z5h rfl
  have e:z5e ⟨1,P,true,s,R+1,id⟩=⟨1,P,true,s,R+1,0⟩:=rfl
  have htk:tkM [⟨id,1,s-1,true,false,(negF (opsT (stpA P (s-1)))).take k,0,sz⟩]=22*(k:Int)+11:=by
   show 22*(((negF (opsT (stpA P (s-1)))).take k).length:Int)+11=_
   rw [hlen]
  refine⟨⟨k+1,?_,by omega⟩,?_,?_,?_,?_⟩
  · have:=UR.undo (c0:=⟨1,P,true,s,R+1,id⟩) (M0:=[⟨id,1,s-1,true,false,(negF (opsT (stpA P (s-1)))).take k,0,sz⟩]) ⟨id,1,s-1,true,false,(negF (opsT (stpA P (s-1)))).take k,0,sz⟩ 0 rfl rfl (show id≠0 by omega) ⟨by show 0≤id;omega,hiQ.2⟩ (fun o ho=>q1p (z4k hfs) o (List.mem_of_mem_take ho)) (by rw [htk];show 0+22*(((negF (opsT (stpA P (s-1)))).take k).length:Int)+11=_;rw [hlen];omega)
    rwa [show (Tc.dn ⟨id,1,s-1,true,false,(negF (opsT (stpA P (s-1)))).take k,0,sz⟩).length=k from hlen] at this
  · rw [z3e _ _ _ rfl,htk];show _≤z1p _ false sz R;rw [h3];omega
  · rw [z3e _ _ _ rfl,hto,e,h1];show _≤z1p _ false sz R+sz;rw [h3];omega
  · rw [e,h1,hc0'];omega
  · rw [z3e _ _ _ rfl,hto,e,h1]
    refine⟨?_,?_,?_,?_,by omega⟩
    · show 0≤z1p _ false sz R;rw [h3];omega
    · show z1p _ false sz R≤10000;rw [h3];omega
    · show 0≤sz;omega
    · show sz≤10000;omega
end
end Go.Proofs.YtclbkfpbdidaiaaGreatDoor
namespace Go.Proofs.YtclbkfpbdidaiaaGreatDoor
open Go.RowKit Go.ChangeShapes Go.WideShapes
set_option linter.unusedVariables false
set_option linter.unusedSimpArgs false
set_option maxRecDepth 10000
theorem wpList_store_tx (t:Tv) {ops:Array Oper} {rest:List Oper} {a:Act} {w:World} {Q:Exit→Act→World→Prop} {dst:Option Tmp} {x y:Operand} {ty:TypeId} {pos:String} {after:Array Edge} {B:Nat} {old:Array Value} (hB:w.heap[B]?=some (.cells old 46 (0,0))) (ho:old.size=8)
 (hx:a.eval x=.pointer (some ⟨B,0,none⟩)) (hy:a.eval y=.agg #[.int .u32 t.c.id,.int .u32 t.c.sg,.int .u8 t.c.st,.bool t.c.cp,.bool t.c.dd,.slice t.p t.n t.m,.int .i64 t.c.fs,.int .i64 t.c.sz])
 (h:wpList Tryz.prog ops Q rest (a.put dst undef) (w.setRow B #[.int .u32 t.c.id,.int .u32 t.c.sg,.int .u8 t.c.st,.bool t.c.cp,.bool t.c.dd,.slice t.p t.n t.m,.int .i64 t.c.fs,.int .i64 t.c.sz])):wpList Tryz.prog ops Q (Oper.mk dst (.store 46 x y) ty pos after none::rest) a w :=
 wpList_store_row rfl 46 x y rfl B #[.int .u32 t.c.id,.int .u32 t.c.sg,.int .u8 t.c.st,.bool t.c.cp,.bool t.c.dd,.slice t.p t.n t.m,.int .i64 t.c.fs,.int .i64 t.c.sz] hx hy 46 old hB (by kernel_rfl) (by rw [ho];rfl) (by simp [Value.oneCell']) h
theorem tv_apart {w:World} {u:Tv} (h:TvM w u) {B:Nat} {x1 x2 x3 z1 z2:Int} {y1 y2:Bool} {p:Option Addr} {n m:Nat} {T:TypeId} (hb:w.heap[B]?=some (.cells #[.int .u32 x1,.int .u32 x2,.int .u8 x3,.bool y1,.bool y2,.slice p n m,.int .i64 z1,.int .i64 z2] T (0,0))) (cs:Array Value):TvM (w.setRow B cs) u:=by
 refine SlG.turn h (by simp [World.setRow]) fun h0 ad he hlt=>setRow_other _ _ _ _ fun hB=>?_
 obtain⟨b',off,hp,_,hc⟩:=h.cell h0
 rw [hp] at he
 cases he
 have hB':b'=B:=hB
 subst hB'
 have k0:=hc 0 h0 0 _ rfl
 have k1:=hc 0 h0 1 _ rfl
 simp only [Nat.zero_mul,Nat.add_zero] at k0 k1
 obtain⟨c0,c1,c2,c3,c4,c5,c6,c7⟩:=z0k hb
 rcases (by omega:off=0∨off=1∨off=2∨off=3∨off=4∨off=5∨off=6∨off=7∨8≤off) with e | e | e | e | e | e | e | e | e
 · subst e;rw [c0] at k0;cases k0
 · subst e;rw [c1] at k0;cases k0
 · subst e;rw [c3] at k1;cases k1
 · subst e;rw [c3] at k0;cases k0
 · subst e;rw [c4] at k0;cases k0
 · subst e;rw [c5] at k0;cases k0
 · subst e;rw [c6] at k0;cases k0
 · subst e;rw [c7] at k0;cases k0
 · rw [show w.cell? ⟨b',off,none⟩=none by simp [World.cell?,hb];omega] at k0
   cases k0
variable {Ju:World→Nat→List Tc→(Nat→Prop)→Prop}
theorem FoN.tbox (I:JnF Words Ju) {W w:World} {A B:Nat} {Q:Nat→Prop} {c:Cv} {L:List Ln} {T:List Tk} {M:List Ln} {J:List Tc} {X:Nat} (h:FoN Ju W w A B Q c L T M J) (ho:Off (fun j=>j=X) c.p) (hq:¬ Q X) (ha:A≠X) (hx:W.heap.size≤X) (cs:Array Value):FoN Ju W (w.setRow X cs) A B Q c L T M J:=by
 have ht:Turn (fun k=>k=X) w (w.setRow X cs):=⟨rfl,rfl,rfl,by simp [World.setRow],fun k _ hn=>setRow_other _ _ _ _ hn⟩
 exact⟨(setRow_other _ _ _ _ ha).trans h.cb,q1h h.cm ht ho,h.off,I.keep h.ju ht (fun j hj e=>hq (e ▸ hj)),h.qa,h.low,World.ownsRow_nil _ _ _ _,h.va,h.vq,h.below.trans (ht.below h.below.size fun k hk=>by rw [hk];exact hx)⟩
end Go.Proofs.YtclbkfpbdidaiaaGreatDoor
