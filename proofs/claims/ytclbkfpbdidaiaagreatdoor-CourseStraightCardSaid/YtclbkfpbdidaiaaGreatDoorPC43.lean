import Derived.Test.YtclbkfpbdidaiaaGreatDoorPC35
import Derived.Deep.WholeRow
namespace Go.Proofs.YtclbkfpbdidaiaaGreatDoor
open Go.RowKit Go.ChangeShapes Go.WideShapes
set_option linter.unusedVariables false
set_option linter.unusedSimpArgs false
set_option maxRecDepth 10000
theorem app_fits {c c':Crs} {X:Rx} (h:appX c X=(c',0)):z3c c=true∧z8h c X=true:=by
 unfold appX at h
 split at h
 · cases h
 rename_i h0
 split at h
 · cases h
 split at h
 · cases h
 rename_i h2
 exact⟨by simpa using h0,by simpa using h2⟩
theorem aft_P (c:Crs) (X:Rx):(z9f c X).P=c.P:=by
 unfold z9f
 split
 · rfl
 split
 · rfl
 split
 · rfl
 split
 · rfl
 split
 · rfl
 · rfl
theorem si_P {P:Pg} {R:Int} {c:Crs} {M:List Tc} {m:Int} (h:SI P R c M m):c.P=P:=by
 cases h <;> rfl
structure FStep (P:Pg) (R:Int) (K:List Bool) (c:Crs) (M:List Tc) (H:List Rx) (i:Nat) (X:Rx) (c':Crs) (M':List Tc):Prop where
 x:X=z1l c M R ((i:Int)+1) (z4d K i)
 good:z1j X=true
 ok:Rxok X
 k2:2≤X.k
 k9:X.k≤9
 app:appX c X=(c',0)
 jn:X.k≤7→appC M 0 X=(M',0)
 same:¬ X.k≤7→M'=M
 go:X.k≠9→Fol P R K c' M' (H ++ [X]) (i+1)
 fin:X.k=9→FolEnd R K H X
 out:HOut (P:=P) (R:=R) c M X c' M'
 crok:Crok c'
 jok:JOk M'
 cp:c'.P=P
 pg:X.pg=noP
 gp:z3c c=true
theorem Fol.jok {P:Pg} {R:Int} {K:List Bool} {c:Crs} {M:List Tc} {H:List Rx} {i:Nat} (h:Fol P R K c M H i) (hi:i≤159):JOk M:=h.ts.mono (by omega) (by omega)
theorem fol_lt {P:Pg} {R:Int} (hg:z0l 4 4 P=true) (hok:Pgok P) (hR:0≤R∧R≤4) {K:List Bool} {c:Crs} {M:List Tc} {H:List Rx} {i:Nat} (h:Fol P R K c M H i):i≤158∧Crok c∧c.P=P:=by
 obtain⟨m,hsi,hm⟩:=h.si
 have:=si_pos hok hg hR hsi
 exact⟨by omega,si_crok hok hg hR hsi,si_P hsi⟩
theorem fol_next {P:Pg} {R:Int} (hg:z0l 4 4 P=true) (hok:Pgok P) (hR:0≤R∧R≤4) {K:List Bool} {c:Crs} {M:List Tc} {H:List Rx} {i:Nat} (h:Fol P R K c M H i) (hz:SZ P M):∃ X c' M',FStep P R K c M H i X c' M':=by
 obtain⟨X,c',M',hX,h1,h2,h3,h4,h5,h6,h7,h8,h9,h10⟩:=Fol.step hg hok hR h
 obtain⟨m,hsi,hm⟩:=h.si
 obtain⟨hi,hc,hcp⟩:=fol_lt hg hok hR h
 obtain⟨c2,M2,ho⟩:=step_any hg hok hR hsi (z4d K i) (id:=(i:Int)+1) ⟨by omega,by omega⟩
 have hh:=hold_step hg hok hR hsi hz (z4d K i) ((i:Int)+1) ho
 have e1:c2=c':=by
  have:=ho.app
  rw [← hX,h5] at this
  exact (Prod.mk.inj this).1.symm
 have e2:M2=M':=by
  by_cases h7':X.k≤7
  · have a1:=h6 h7'
    have a2:=ho.jn (by rw [← hX];exact h7')
    rw [← hX,a1] at a2
    exact (Prod.mk.inj a2).1.symm
  · rw [h7 h7',ho.same (by rw [← hX];exact h7')]
 rw [e1,e2,← hX] at hh
 obtain⟨g1,g2⟩:=app_fits h5
 have hdet:=(z4b h5).1
 refine⟨X,c',M',hX,h1,h2,h3,h4,h5,h6,h7,h8,h9,hh,?_,?_,?_,?_,g1⟩
 · rw [hdet]
   exact aft_ok hc g1 h2 g2
 · by_cases hk9:X.k=9
   · rw [h7 (by omega)]
     exact h.jok (by omega)
   · exact (h8 hk9).jok (by omega)
 · rw [hdet,aft_P,hcp]
 · rw [hX]
   exact nextS_pg _ _ _ _ _
theorem tof_ok {M:List Tc} (h:JOk M):(∀ o∈(tOf M).dn,Ook o)∧(tOf M).dn.length≤20∧(0≤(tOf M).sz∧(tOf M).sz≤1000000000000000000):=by
 unfold tOf
 cases hgt:getT Tc.sg M 1 with
 | none=>exact⟨(fun o ho=>by cases ho),by decide,by decide,by decide⟩
 | some t =>
  have hm:=(z5g hgt).1
  have hs:=h.sz t hm
  exact⟨(h.ok t hm).dn,h.few t hm,hs.1,by have:=hs.2;show t.sz≤1000000000000000000;omega⟩
theorem cv_small {w:World} {c:Cv} {L:List Ln} {T:List Tk} {M:List Ln} (h:CvM w c L T M) {P:Pg} (hp:(c.x L T M).P=P) (hg:z0l 4 4 P=true):c.p.ln≤400∧c.p.tn≤400∧c.p.wn≤400:=by
 obtain⟨h1,h2,h3⟩:=z7z (P:=c.p.pg L T M) (by rw [show c.p.pg L T M=P from hp];exact hg)
 have g1:=h.l.len
 have g2:=h.t.len
 have g3:=h.o.len
 have h1':L.length≤3:=h1
 have h2':T.length≤12:=h2
 have h3':M.length≤3:=h3
 omega
theorem wpList_storen_tx (t:Tv) {ops:Array Oper} {rest:List Oper} {a:Act} {w0:World} {Q:Exit→Act→World→Prop} {dst:Option Tmp} {x y:Operand} {ty:TypeId} {pos:String} {after:Array Edge} {old:Array Value} (ho:old.size=8)
 (hx:a.eval x=.pointer (some ⟨w0.heap.size,0,none⟩)) (hy:a.eval y=.agg #[.int .u32 t.c.id,.int .u32 t.c.sg,.int .u8 t.c.st,.bool t.c.cp,.bool t.c.dd,.slice t.p t.n t.m,.int .i64 t.c.fs,.int .i64 t.c.sz])
 (h:wpList Tryz.prog ops Q rest (a.put dst undef) (w0.alloc (.cells #[.int .u32 t.c.id,.int .u32 t.c.sg,.int .u8 t.c.st,.bool t.c.cp,.bool t.c.dd,.slice t.p t.n t.m,.int .i64 t.c.fs,.int .i64 t.c.sz] 46))):wpList Tryz.prog ops Q (Oper.mk dst (.store 46 x y) ty pos after none::rest) a (w0.alloc (.cells old 46)):=by
 refine wpList_store_row rfl 46 x y rfl w0.heap.size #[.int .u32 t.c.id,.int .u32 t.c.sg,.int .u8 t.c.st,.bool t.c.cp,.bool t.c.dd,.slice t.p t.n t.m,.int .i64 t.c.fs,.int .i64 t.c.sz] hx hy 46 old (z0c _ _) (by kernel_rfl) (by rw [ho];rfl) (by simp [Value.oneCell']) ?_
 rw [World.setRow_alloc_new]
 exact h
theorem wpList_storen_rc (r:Rv) {ops:Array Oper} {rest:List Oper} {a:Act} {w0:World} {Q:Exit→Act→World→Prop} {dst:Option Tmp} {x y:Operand} {ty:TypeId} {pos:String} {after:Array Edge} {old:Array Value} (ho:old.size=20)
 (hx:a.eval x=.pointer (some ⟨w0.heap.size,0,none⟩)) (hy:a.eval y=.agg (rcs r))
 (h:wpList Tryz.prog ops Q rest (a.put dst undef) (w0.alloc (.cells (rcs r) 42))):wpList Tryz.prog ops Q (Oper.mk dst (.store 42 x y) ty pos after none::rest) a (w0.alloc (.cells old 42)):=by
 refine wpList_store_row rfl 42 x y rfl w0.heap.size (rcs r) hx hy 42 old (z0c _ _) (by kernel_rfl) (by rw [ho];rfl) (z9v r) ?_
 rw [World.setRow_alloc_new]
 exact h
theorem z2t (c:Cv) {ops:Array Oper} {rest:List Oper} {a:Act} {w0:World} {Q:Exit→Act→World→Prop} {dst:Option Tmp} {x y:Operand} {ty:TypeId} {pos:String} {after:Array Edge} {old:Array Value} (ho:old.size=15)
 (hx:a.eval x=.pointer (some ⟨w0.heap.size,0,none⟩)) (hy:a.eval y=.agg (ccs c))
 (h:wpList Tryz.prog ops Q rest (a.put dst undef) (w0.alloc (.cells (ccs c) 34))):wpList Tryz.prog ops Q (Oper.mk dst (.store 34 x y) ty pos after none::rest) a (w0.alloc (.cells old 34)):=by
 refine wpList_store_row rfl 34 x y rfl w0.heap.size (ccs c) hx hy 34 old (z0c _ _) (by kernel_rfl) (by rw [ho];rfl) (q0l c) ?_
 rw [World.setRow_alloc_new]
 exact h
theorem wpList_load_ypl {ops:Array Oper} {rest:List Oper} {a:Act} {w:World} {Q:Exit→Act→World→Prop} {dst:Option Tmp} {x:Operand} {ty:TypeId} {pos:String} {after:Array Edge} {B:Nat} {y:Yv} (hC:YB w B y) (hx:a.eval x=.pointer (some ⟨B,0,none⟩))
 (h:wpList Tryz.prog ops Q rest (a.put dst (.agg #[.int .u8 y.p.pk,.int .u32 y.p.od,.int .u8 y.p.po,.slice y.p.lp y.p.ln y.p.lcp,.slice y.p.tp y.p.tn y.p.tcp,.slice y.p.wp y.p.wn y.p.wcp,.int .u8 y.p.sk,.int .u8 y.p.fr,.int .u8 y.p.to,.int .i64 y.p.q])) w):wpList Tryz.prog ops Q (Oper.mk dst (.load 26 x) ty pos after none::rest) a w :=
 z2m hC hx h
theorem FoM.lt2 {Ju:World→Nat→List Tc→(Nat→Prop)→Prop} {W wr:World} {A B:Nat} {Q:Nat→Prop} {c:Cv} {L:List Ln} {T:List Tk} {M:List Ln} {J:List Tc} {v:Value} {H:List Rv} (h:FoM Ju W wr A B Q c L T M J v H) (I:JnF Words Ju):∀ j,fblk A Q v j→j<wr.heap.size:=FoM.lt I h
end Go.Proofs.YtclbkfpbdidaiaaGreatDoor
