import Derived.Test.YtclbkfpbdidaiaaGreatDoorPC38
import Derived.Test.YtclbkfpbdidaiaaGreatDoorPC30
import Derived.Laws.CopyOwn
namespace Go.Proofs.YtclbkfpbdidaiaaGreatDoor
open Go.Lib (hid)
set_option maxHeartbeats 4000000
open Go.RowKit Go.ChangeShapes Go.WideShapes
set_option linter.unusedVariables false
set_option linter.unusedSimpArgs false
set_option maxRecDepth 10000
theorem size_op:(Tryz.prog.info? 105).map (·.size)=some 4:=by kernel_rfl
theorem made_ops (n:Nat) (hn:n≤1000000) (w:World):∃ cur,cur.size=n*4∧(Instr.makeSlice 44 (.int .i64 (n:Nat)) (.int .i64 (n:Nat))).run Tryz.prog w=.ok (.slice (some ⟨w.heap.size,0,none⟩) n n) (w.alloc (.cells cur 105)):=by
 obtain⟨i,hi,hz0,hz1,hz2⟩:=info_parts q0e
 have hr:=run_make (P:=Tryz.prog) w 44 105 i _ Tryz.underlying44 hi hz0 .i64 .i64 (n:Nat) (n:Nat) (by omega) (by omega) (by rw [hz2];omega) (by omega)
 rw [hz1,Int.toNat_natCast] at hr
 exact⟨_,size_madeCells _ _,hr⟩
theorem run_copy_ops {w:World} {g m dc sc:Nat} {sp:Option Addr} {L:List O} {cur:Array Value} (hg:w.heap[g]?=some (.cells cur 105 (0,0))) (hc:cur.size=m*4) (hsrc:OL w sp m sc L) (ty:TypeId) :
 ∃ w',(Builtin.copy_ #[44,44] ty #[.slice (some ⟨g,0,none⟩) m dc,.slice sp m sc]).run Tryz.prog w=.ok (.int .i64 (m:Nat)) w'∧w'.heap[g]?=some (.cells (z0n oc L).toArray 105 (0,0))∧Chg (fun k=>k=g) w w':=by
 have hs:=size_op
 cases hq:Tryz.prog.info? 105 with
 | none=>rw [hq] at hs;cases hs
 | some i =>
  have hi:i.size=4:=by rw [hq] at hs;simpa using hs
  have hu:=Tryz.underlying44
  have hfl:(z0n oc L).length=m*4:=by rw [z1m z5l,hsrc.len]
  have h1:∀ u∈z0n oc L,u.oneCell'=true:=z1n q1q L
  by_cases h0:m=0
  · subst h0
    have hl:∀ (x:Addr),(loadCells x 0).run Tryz.prog w=.ok #[] w:=fun x=>by simpa using run_loadCells_list (P:=Tryz.prog) w x [] (by simp)
    obtain rfl:L=[]:=List.eq_nil_of_length_eq_zero hsrc.len
    have hcur:cur=#[]:=Array.eq_empty_of_size_eq_zero (by omega)
    refine⟨w,?_,by rw [hg,hcur];rfl,Chg.refl _ _⟩
    cases sp <;> simp [Builtin.copy_,run_underlying hu,Builtin.lenOf,Builtin.firstCells,sizeOf,typeInfo,hq,hi,storeCells,hl,goInt]
  · have hnews:=fun ad (he:sp=some ad)=>(show ∀ j u,(z0n oc L)[j]?=some u→w.cell? (ad.add j)=some u from fun j u hu=>by
     have hj:j<m*4:=by rw [← hfl];exact (List.getElem?_eq_some_iff.1 hu).1
     obtain⟨b,off,hp,_,hcell⟩:=hsrc.cell (by omega)
     rw [hp] at he
     cases he
     have e:j=j / 4*4+j % 4:=by omega
     rw [e,z6g z5l L (j / 4) (j % 4) (by rw [hsrc.len];omega) (by omega) (d:=o0)] at hu
     have:=hcell (j / 4) (by omega) (j % 4) u hu
     rw [Go.WideShapes.add_plain]
     rw [show off+j=off+j / 4*4+j % 4 by omega]
     exact this)
    obtain⟨b,off,rfl,_,_⟩:=hsrc.cell (by omega)
    have hl:=run_loadCells_list (P:=Tryz.prog) w ⟨b,off,none⟩ (z0n oc L) (hnews _ rfl)
    rw [hfl] at hl
    have hst:=Go.run_storeCells_at Tryz.prog g 0 105 (z0n oc L) 0 cur w hg (by rw [hfl,hc];omega) h1
    refine⟨w.setRow g (z0n oc L).toArray,?_,setRow_heap w g _ _ _ _ hg,⟨rfl,rfl,rfl,by simp [World.setRow],fun k hk hn=>setRow_other w g k _ hn⟩⟩
    have hd:cur.toList.drop (0+(z0n oc L).length)=[]:=List.drop_eq_nil_of_le (by rw [hfl];simp [hc])
    simp only [Nat.zero_add,List.take_zero,List.nil_append] at hst hd
    rw [hd,List.append_nil] at hst
    simp [Builtin.copy_,run_underlying hu,Builtin.lenOf,Builtin.firstCells,sizeOf,typeInfo,hq,hi,hl,hst,goInt]
theorem wpList_copy_o {w:World} {ops:Array Oper} {rest:List Oper} {a:Act} {Q:Exit→Act→World→Prop} {dst:Option Tmp} {d s:Operand} {ty:TypeId} {pos:String} {after:Array Edge} {g m dc sc:Nat} {sp:Option Addr} {L:List O} {cur:Array Value}
 (hg:w.heap[g]?=some (.cells cur 105 (0,0))) (hc:cur.size=m*4) (hsrc:OL w sp m sc L) (hd:a.eval d=.slice (some ⟨g,0,none⟩) m dc) (hs:a.eval s=.slice sp m sc)
 (h:∀ w',w'.heap[g]?=some (.cells (z0n oc L).toArray 105 (0,0))→Chg (fun k=>k=g) w w'→wpList Tryz.prog ops Q rest (a.put dst (.int .i64 (m:Nat))) w') :
 wpList Tryz.prog ops Q (Oper.mk dst (.call { callee:=.builtin .copy,args:=#[d,s],argTypes:=#[44,44] }) ty pos after none::rest) a w:=by
 refine wpList_plain rfl fun K hK=>?_
 obtain⟨w',hrun,h1,h2⟩:=run_copy_ops (dc:=dc) hg hc hsrc ty
 unfold Oper.wp
 simp [execOp,resolve,invoke,builtin,hd,hs,hrun,Result.andThen]
 exact hK _ _ (h w' h1 h2)
theorem own_whole {w:World} {g n:Nat} {L:List O} (hg:w.heap[g]?=some (.cells (z0n oc L).toArray 105 (0,0))) (hl:L.length=n) (hn:n≤1000000) {base:Nat} (hb:base≤g):w.ownsRow base 105 4 (.slice (some ⟨g,0,none⟩) n n) n (z0n oc L):=by
 have hfl:(z0n oc L).length=n*4:=by rw [z1m z5l,hl]
 exact⟨hfl,.inr ⟨g,n,_,rfl,hb,hg,Nat.le_refl _,by unfold maxLen;omega,by simpa using hfl,by rw [← hfl];simp⟩⟩
theorem tchg (w:World) (B:Nat) (a' b' c' d' e' f' g' h':Value):Chg (fun k=>k=B) w ((((((((w.setCell ⟨B,0,none⟩ a').setCell ⟨B,1,none⟩ b').setCell ⟨B,2,none⟩ c').setCell ⟨B,3,none⟩ d').setCell ⟨B,4,none⟩ e').setCell ⟨B,5,none⟩ f').setCell ⟨B,6,none⟩ g').setCell ⟨B,7,none⟩ h') :=
 ((((((((Chg.refl (fun k=>k=B) w).setCell ⟨B,0,none⟩ _ fun _=>rfl).setCell ⟨B,1,none⟩ _ fun _=>rfl).setCell ⟨B,2,none⟩ _ fun _=>rfl).setCell ⟨B,3,none⟩ _ fun _=>rfl).setCell ⟨B,4,none⟩ _ fun _=>rfl).setCell ⟨B,5,none⟩ _ fun _=>rfl).setCell ⟨B,6,none⟩ _ fun _=>rfl).setCell ⟨B,7,none⟩ _ fun _=>rfl
def GivesOwn (W:World) (t:Tv) (e:Ending) (w':World):Prop:=∃ p m,e=.returned (.agg #[.int .u32 t.c.id,.int .u32 t.c.sg,.int .u8 t.c.st,.bool t.c.cp,.bool t.c.dd,.slice p t.n m,.int .i64 t.c.fs,.int .i64 t.c.sz])∧w'.ownsRow W.heap.size 105 4 (.slice p t.n m) t.n (z0n oc t.c.dn)∧Below W.heap.size W w'
theorem own_any (t:Tv) (W:World) (hM:TvM W t) (hn:t.n≤10000) :
 Calls Tryz.prog 60 #[.agg #[.int .u32 t.c.id,.int .u32 t.c.sg,.int .u8 t.c.st,.bool t.c.cp,.bool t.c.dd,.slice t.p t.n t.m,.int .i64 t.c.fs,.int .i64 t.c.sz]] W (GivesOwn W t):=by
 obtain⟨hb0,hx0,hr0⟩:=ttwo W #[.int .u32 t.c.id,.int .u32 t.c.sg,.int .u8 t.c.st,.bool t.c.cp,.bool t.c.dd,.slice t.p t.n t.m,.int .i64 t.c.fs,.int .i64 t.c.sz] #[.int .u32 0,.int .u32 0,.int .u8 0,.bool false,.bool false,.slice none 0 0,.int .i64 0,.int .i64 0] 46 46
 have HM:=hid (hM.later hb0)
 have HLN:=hid hM.len
 have HN:=hid hn
 have HB0:=hid hb0
 have HX:=hid hx0
 have HR:=hid hr0
 have HMK:=hid fun w=>made_ops t.n (by omega) w
 obtain⟨X,hX⟩:∃ X,W.heap.size=X:=⟨_,rfl⟩
 rw [hX] at HX HR
 have HWX:Hid (W.heap.size=X):=hid hX
 clear hb0 hx0 hr0 hM
 go_enter Tryz.func60,Tryz.ntmps60
 go_upto_region 1 with (fail)
 generalize (W.alloc (.cells #[.int .u32 t.c.id,.int .u32 t.c.sg,.int .u8 t.c.st,.bool t.c.cp,.bool t.c.dd,.slice t.p t.n t.m,.int .i64 t.c.fs,.int .i64 t.c.sz] 46)).alloc (.cells #[.int .u32 0,.int .u32 0,.int .u8 0,.bool false,.bool false,.slice none 0 0,.int .i64 0,.int .i64 0] 46)=V0 at *
 have HNE:Hid (X≠X+1):=hid (by omega)
 have HRW:Hid (W.heap.size≤X+1):=hid (by rw [HWX.out];omega)
 generalize X+1=R at *
 have HRX:Hid (X<V0.heap.size∧R<V0.heap.size∧X≠R):=hid ⟨z0g HX.out,z0g HR.out,HNE.out⟩
 obtain⟨cur,hcs,hmk⟩:=HMK.out V0
 have x5:=z0a (j:=5) HX.out rfl
 go_upto_region 2 with (fail)
 clear x5 hmk
 have HCS:=hid hcs
 have hb1:Below V0.heap.size V0 (V0.alloc (.cells cur 105)):=(Below.refl _ _).alloc (Nat.le_refl _) _
 have HY1:=hid (z0c V0 (.cells cur 105))
 have HX1:=hid (z0b HX.out hb1)
 have HM1:=hid (HM.out.later hb1)
 have HR1:=hid (z0b HR.out hb1)
 have HB1:=hid hb1
 obtain⟨Y,hY⟩:∃ Y,V0.heap.size=Y:=⟨_,rfl⟩
 have HYE:=hid hY
 rw [hY] at HY1
 rw [hY]
 clear hcs hb1 hY
 generalize V0.alloc (.cells cur 105)=V1 at *
 have x5:=z0a (j:=5) HX1.out rfl
 go_upto_region 3 with ((with_reducible refine wpList_copy_o (dc:=t.n) HY1.out HCS.out HM1.out ?_ ?_ ?_);rfl;rfl;intro V2 h1 h2)
 have hne:X≠Y∧R≠Y:=by have:=HRX.out;have:=HYE.out;omega
 have HX2:=hid ((h2.block X (z0g HX1.out) hne.1).trans HX1.out)
 have HR2:=hid ((h2.block R (z0g HR1.out) hne.2).trans HR1.out)
 have hs1:=HB1.out.size
 have HB2:=hid (h2.below (HB0.out.trans (HB1.out.mono HB0.out.size)) (Nat.le_trans HB0.out.size hs1) (fun k hk=>by have h3:=HYE.out;have h4:=HB0.out.size;omega))
 have HY2:=hid h1
 have HNY:=hid hne
 clear x5 h1 h2 hne hs1 HY1 HX1 HM1 HR1 HB1
 have HX3:=hid (z0u 5 (.slice (some ⟨Y,0,none⟩) t.n t.n) HX2.out)
 have HC3:Hid (Chg (fun k=>k=X) V2 (V2.setCell ⟨X,5,none⟩ (.slice (some ⟨Y,0,none⟩) t.n t.n))):=hid ((Chg.refl _ _).setCell _ _ fun _=>rfl)
 have hf5:=z0o 5 HX2.out
 have x5:=z0a (j:=5) HX2.out rfl
 go_upto_region 4 with (fail)
 clear hf5 x5
 have HY3:=hid ((HC3.out.block Y (z0g HY2.out) (fun e=>HNY.out.1 e.symm)).trans HY2.out)
 have HR3:=hid ((HC3.out.block R (z0g HR2.out) (fun e=>HRX.out.2.2 e.symm)).trans HR2.out)
 have HB3:=hid (HC3.out.below HB2.out HB2.out.size (fun k hk=>by have:=HWX.out;omega))
 clear HC3 HX2 HR2 HB2 HY2
 generalize V2.setCell ⟨X,5,none⟩ (.slice (some ⟨Y,0,none⟩) t.n t.n)=V3 at *
 have hx3:V3.heap[X]?=some (.cells #[.int .u32 t.c.id,.int .u32 t.c.sg,.int .u8 t.c.st,.bool t.c.cp,.bool t.c.dd,.slice (some ⟨Y,0,none⟩) t.n t.n,.int .i64 t.c.fs,.int .i64 t.c.sz] 46 (0,0)):=HX3.out
 obtain⟨x0,x1,x2,x3,x4,x5,x6,x7⟩:=z0i hx3
 obtain⟨y0,y1,y2,y3,y4,y5,y6,y7⟩:=z5j HR3.out
 obtain⟨z0,z1,z2,z3,z4,z5,z6,z7⟩:=z0i HR3.out
 have HFS:=hid (z3q (a':=.int .u32 t.c.id) (b':=.int .u32 t.c.sg) (c':=.int .u8 t.c.st) (d':=.bool t.c.cp) (e':=.bool t.c.dd) (f':=.slice (some ⟨Y,0,none⟩) t.n t.n) (g':=.int .i64 t.c.fs) (h':=.int .i64 t.c.sz) HR3.out)
 have HGS:=hid (q1x HB3.out (show W.heap.size≤R by have:=HRW.out;omega) (.int .u32 t.c.id) (.int .u32 t.c.sg) (.int .u8 t.c.st) (.bool t.c.cp) (.bool t.c.dd) (.slice (some ⟨Y,0,none⟩) t.n t.n) (.int .i64 t.c.fs) (.int .i64 t.c.sz))
 have HCR:Hid (Chg (fun k=>k=R) V3 _):=hid (tchg V3 R (.int .u32 t.c.id) (.int .u32 t.c.sg) (.int .u8 t.c.st) (.bool t.c.cp) (.bool t.c.dd) (.slice (some ⟨Y,0,none⟩) t.n t.n) (.int .i64 t.c.fs) (.int .i64 t.c.sz))
 clear hx3
 go_wp2_with fail
 refine bodyPost_ret (v:=.agg #[.int .u32 t.c.id,.int .u32 t.c.sg,.int .u8 t.c.st,.bool t.c.cp,.bool t.c.dd,.slice (some ⟨Y,0,none⟩) t.n t.n,.int .i64 t.c.fs,.int .i64 t.c.sz]) ?_ rfl ⟨_,_,rfl,own_whole ((HCR.out.block Y (z0g HY3.out) (fun e=>HNY.out.2 e.symm)).trans HY3.out) HLN.out (by have:=HN.out;omega) (by have:=HYE.out;have:=HB0.out.size;omega),HGS.out⟩
 exact z3l rfl _ _ R _ rfl rfl HFS.out
end Go.Proofs.YtclbkfpbdidaiaaGreatDoor
