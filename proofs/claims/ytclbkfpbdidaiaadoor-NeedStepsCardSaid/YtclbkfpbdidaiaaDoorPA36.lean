import Derived.Test.YtclbkfpbdidaiaaDoorPA35
import Derived.Test.YtclbkfpbdidaiaaDoorPA13
namespace Go.Proofs.YtclbkfpbdidaiaaDoor
open Go.RowKit
set_option linter.unusedVariables false
set_option linter.unusedSimpArgs false
set_option maxRecDepth 10000
structure Crs where
 sg:Int
 P:Pg
 bk:Bool
 st:Int
 tr:Int
 tx:Int
deriving DecidableEq
structure Crok (c:Crs):Prop where
 sg:0≤c.sg∧c.sg≤4294967295
 P:Pgok c.P
 st:In64 c.st
 tr:In64 c.tr
 tx:0≤c.tx∧c.tx≤4294967295
def lenC (c:Crs):Int:=((z0k c.P).length:Int)
def goodC (c:Crs):Bool:=(c.sg != 0) && z0s 4 4 c.P && decide (0≤c.st) && decide (c.st≤lenC c) && decide (0≤c.tr)
theorem goodC_parts {c:Crs} (h:goodC c=true):c.sg≠0∧z0s 4 4 c.P=true∧0≤c.st∧c.st≤lenC c∧0≤c.tr:=by
 unfold goodC at h
 simp only [Bool.and_eq_true,bne_iff_ne,ne_eq,decide_eq_true_eq] at h
 exact⟨h.1.1.1.1,h.1.1.1.2,h.1.1.2,h.1.2,h.2⟩
theorem goodC_of {c:Crs} (h1:c.sg≠0) (h2:z0s 4 4 c.P=true) (h3:0≤c.st) (h4:c.st≤lenC c) (h5:0≤c.tr):goodC c=true:=by
 unfold goodC
 simp [h1,h2,h3,h4,h5]
theorem lenC_fine {c:Crs} (h:goodC c=true) (hok:Pgok c.P):1≤lenC c∧lenC c≤5:=by
 have:=(z2e (goodC_parts h).2.1 hok).1
 unfold lenC
 omega
def noC:Crs:=⟨0,noP,false,0,0,0⟩
def startX (X:Rx):Crs × Int:=if X.k=1∧goodX X=true then (⟨X.sg,X.pg,false,0,0,0⟩,0) else (noC,1)
def opsT (s:Stp):List O:=opsS s.1 s.2.1 s.2.2
end Go.Proofs.YtclbkfpbdidaiaaDoor
namespace Go.Proofs.YtclbkfpbdidaiaaDoor
open Go.RowKit Go.ChangeShapes Go.WideShapes
set_option linter.unusedVariables false
set_option maxRecDepth 10000
set_option linter.unusedSimpArgs false
structure Rv where
 k:Int
 sg:Int
 tx:Int
 st:Int
 cp:Bool
 ka:Int
 kb:Int
 kc:Int
 d:Int
 o:Int
 pk:Int
 od:Int
 po:Int
 lp:Option Addr
 ln:Nat
 lcp:Nat
 tp:Option Addr
 tn:Nat
 tcp:Nat
 wp:Option Addr
 wn:Nat
 wcp:Nat
 sk:Int
 fr:Int
 to:Int
 q:Int
def pcs (r:Rv):Array Value:=#[.int .u8 r.pk,.int .u32 r.od,.int .u8 r.po,.slice r.lp r.ln r.lcp,.slice r.tp r.tn r.tcp,.slice r.wp r.wn r.wcp,.int .u8 r.sk,.int .u8 r.fr,.int .u8 r.to,.int .i64 r.q]
def rcs (r:Rv):Array Value:=#[.int .u8 r.k,.int .u32 r.sg,.int .u32 r.tx,.int .u8 r.st,.bool r.cp,.int .u8 r.ka,.int .u8 r.kb,.int .u8 r.kc,.int .i64 r.d,.int .u8 r.o,.int .u8 r.pk,.int .u32 r.od,.int .u8 r.po,.slice r.lp r.ln r.lcp,.slice r.tp r.tn r.tcp,.slice r.wp r.wn r.wcp,.int .u8 r.sk,.int .u8 r.fr,.int .u8 r.to,.int .i64 r.q]
def rz:Rv:=⟨0,0,0,0,false,0,0,0,0,0,0,0,0,none,0,0,none,0,0,none,0,0,0,0,0,0⟩
def Rv.pg (r:Rv) (L:List Ln) (T:List Tk) (M:List Ln):Pg:=⟨r.pk,r.od,r.po,L,T,M,r.sk,r.fr,r.to,r.q⟩
def Rv.x (r:Rv) (L:List Ln) (T:List Tk) (M:List Ln):Rx:=⟨r.k,r.sg,r.tx,r.st,r.cp,(r.ka,r.kb,r.kc),r.d,r.o,r.pg L T M⟩
abbrev RvM (w:World) (r:Rv) (L:List Ln) (T:List Tk) (M:List Ln):Prop:=PgM w r.lp r.ln r.lcp L r.tp r.tn r.tcp T r.wp r.wn r.wcp M
theorem rz_m (w:World):RvM w rz [] [] []:=⟨SlG.empty _,SlG.empty _,SlG.empty _⟩
theorem rcs_one (r:Rv):(rcs r).all (·.oneCell')=true:=by simp [rcs,Value.oneCell']
def RB (w:World) (B:Nat) (r:Rv):Prop:=w.heap[B]?=some (.cells (rcs r) 44 (0,0))
theorem RB.later {w w':World} {B:Nat} {r:Rv} (h:RB w B r) (hb:Below w.heap.size w w'):RB w' B r:=z0c h hb
theorem RB.new (w:World) (r:Rv):RB (w.alloc (.cells (rcs r) 44)) w.heap.size r:=z0b _ _
theorem RB.at {w:World} {B:Nat} {r:Rv} (h:RB w B r):w.cell? ⟨B,0,none⟩=some (.int .u8 r.k)∧w.cell? ⟨B,1,none⟩=some (.int .u32 r.sg)∧w.cell? ⟨B,2,none⟩=some (.int .u32 r.tx)∧w.cell? ⟨B,3,none⟩=some (.int .u8 r.st)∧w.cell? ⟨B,4,none⟩=some (.bool r.cp)∧w.cell? ⟨B,5,none⟩=some (.int .u8 r.ka)∧w.cell? ⟨B,6,none⟩=some (.int .u8 r.kb)∧w.cell? ⟨B,7,none⟩=some (.int .u8 r.kc)∧w.cell? ⟨B,8,none⟩=some (.int .i64 r.d)∧w.cell? ⟨B,9,none⟩=some (.int .u8 r.o) :=
 ⟨z0a h rfl,z0a h rfl,z0a h rfl,z0a h rfl,z0a h rfl,z0a h rfl,z0a h rfl,z0a h rfl,z0a h rfl,z0a h rfl⟩
theorem RB.chg {S:Nat→Prop} {w w':World} {B:Nat} {r:Rv} (h:RB w B r) (hc:Chg S w w') (hs:¬ S B):RB w' B r:=(hc.block B (z1d h) hs).trans h
theorem RB.set {w:World} {B:Nat} {r:Rv} (h:RB w B r) (r':Rv):RB (w.setRow B (rcs r')) B r':=setRow_heap _ _ _ _ _ _ h
theorem z1f {ops:Array Oper} {rest:List Oper} {a:Act} {w:World} {Q:Exit→Act→World→Prop} {dst:Option Tmp} {x:Operand} {ty:TypeId} {pos:String} {after:Array Edge} {B:Nat} {r:Rv} (hC:RB w B r) (hx:a.eval x=.pointer (some ⟨B,0,none⟩))
 (h:wpList Tryd.prog ops Q rest (a.put dst (.agg (rcs r))) w):wpList Tryd.prog ops Q (Oper.mk dst (.load 44 x) ty pos after none::rest) a w :=
 wpList_load_row rfl 44 x rfl B hx 44 (rcs r) (0,0) _ hC Tryd.underlying44 rfl (by kernel_rfl) h
theorem z0n {ops:Array Oper} {rest:List Oper} {a:Act} {w:World} {Q:Exit→Act→World→Prop} {dst:Option Tmp} {x:Operand} {ty:TypeId} {pos:String} {after:Array Edge} {gd:Option (Nat × Bool)} {B:Nat} {r:Rv} (hC:RB w B r) (hw:Region.wanted (Oper.mk dst (.load 44 x) ty pos after gd) (yielded ops a.tmps)=true) (hx:a.eval x=.pointer (some ⟨B,0,none⟩))
 (h:wpList Tryd.prog ops Q rest (a.put dst (.agg (rcs r))) w):wpList Tryd.prog ops Q (Oper.mk dst (.load 44 x) ty pos after gd::rest) a w :=
 wpList_step fun K hK=>by
  rw [if_pos hw]
  exact wp_load_row 44 x rfl B hx 44 (rcs r) (0,0) _ hC Tryd.underlying44 rfl (by kernel_rfl) (hK _ _ h)
theorem rcs_prog (r:Rv):∀ j,j<(pcs r).size→(rcs r)[10+j]?=(pcs r)[j]?:=by
 intro j hj
 have h10:j<10:=hj
 rcases (by omega:j=0∨j=1∨j=2∨j=3∨j=4∨j=5∨j=6∨j=7∨j=8∨j=9) with rfl | rfl | rfl | rfl | rfl | rfl | rfl | rfl | rfl | rfl <;> rfl
theorem wpList_load_pr {ops:Array Oper} {rest:List Oper} {a:Act} {w:World} {Q:Exit→Act→World→Prop} {dst:Option Tmp} {x:Operand} {ty:TypeId} {pos:String} {after:Array Edge} {B:Nat} {r:Rv} (hC:RB w B r) (hx:a.eval x=.pointer (some ⟨B,10,none⟩))
 (h:wpList Tryd.prog ops Q rest (a.put dst (.agg (pcs r))) w):wpList Tryd.prog ops Q (Oper.mk dst (.load 33 x) ty pos after none::rest) a w :=
 wpList_load_part rfl 33 x rfl B 10 hx 44 (rcs r) (pcs r) (0,0) _ hC (rcs_prog r) Tryd.underlying33 rfl (by kernel_rfl) h
theorem wpList_store_rc (r':Rv) {ops:Array Oper} {rest:List Oper} {a:Act} {w:World} {Q:Exit→Act→World→Prop} {dst:Option Tmp} {x y:Operand} {ty:TypeId} {pos:String} {after:Array Edge} {B:Nat} {r:Rv} (hB:RB w B r)
 (hx:a.eval x=.pointer (some ⟨B,0,none⟩)) (hy:a.eval y=.agg (rcs r'))
 (h:wpList Tryd.prog ops Q rest (a.put dst undef) (w.setRow B (rcs r'))):wpList Tryd.prog ops Q (Oper.mk dst (.store 44 x y) ty pos after none::rest) a w :=
 wpList_store_row rfl 44 x y rfl B (rcs r') hx hy 44 (rcs r) hB (by kernel_rfl) rfl (rcs_one r') h
structure Cv where
 sg:Int
 p:Rv
 bk:Bool
 st:Int
 tr:Int
 tx:Int
def ccs (c:Cv):Array Value:=#[.int .u32 c.sg,.int .u8 c.p.pk,.int .u32 c.p.od,.int .u8 c.p.po,.slice c.p.lp c.p.ln c.p.lcp,.slice c.p.tp c.p.tn c.p.tcp,.slice c.p.wp c.p.wn c.p.wcp,.int .u8 c.p.sk,.int .u8 c.p.fr,.int .u8 c.p.to,.int .i64 c.p.q,.bool c.bk,.int .i64 c.st,.int .i64 c.tr,.int .u32 c.tx]
def cz:Cv:=⟨0,rz,false,0,0,0⟩
def Cv.x (c:Cv) (L:List Ln) (T:List Tk) (M:List Ln):Crs:=⟨c.sg,c.p.pg L T M,c.bk,c.st,c.tr,c.tx⟩
theorem cz_x:cz.x [] [] []=noC:=rfl
abbrev CvM (w:World) (c:Cv) (L:List Ln) (T:List Tk) (M:List Ln):Prop:=RvM w c.p L T M
theorem ccs_one (c:Cv):(ccs c).all (·.oneCell')=true:=by simp [ccs,Value.oneCell']
def CB (w:World) (B:Nat) (c:Cv):Prop:=w.heap[B]?=some (.cells (ccs c) 46 (0,0))
theorem CB.later {w w':World} {B:Nat} {c:Cv} (h:CB w B c) (hb:Below w.heap.size w w'):CB w' B c:=z0c h hb
theorem CB.new (w:World) (c:Cv):CB (w.alloc (.cells (ccs c) 46)) w.heap.size c:=z0b _ _
theorem CB.at {w:World} {B:Nat} {c:Cv} (h:CB w B c):w.cell? ⟨B,0,none⟩=some (.int .u32 c.sg)∧w.cell? ⟨B,11,none⟩=some (.bool c.bk)∧w.cell? ⟨B,12,none⟩=some (.int .i64 c.st)∧w.cell? ⟨B,13,none⟩=some (.int .i64 c.tr)∧w.cell? ⟨B,14,none⟩=some (.int .u32 c.tx) :=
 ⟨z0a h rfl,z0a h rfl,z0a h rfl,z0a h rfl,z0a h rfl⟩
theorem CB.set {w:World} {B:Nat} {c:Cv} (h:CB w B c) (c':Cv):CB (w.setRow B (ccs c')) B c':=setRow_heap _ _ _ _ _ _ h
theorem wpList_load_cr {ops:Array Oper} {rest:List Oper} {a:Act} {w:World} {Q:Exit→Act→World→Prop} {dst:Option Tmp} {x:Operand} {ty:TypeId} {pos:String} {after:Array Edge} {B:Nat} {c:Cv} (hC:CB w B c) (hx:a.eval x=.pointer (some ⟨B,0,none⟩))
 (h:wpList Tryd.prog ops Q rest (a.put dst (.agg (ccs c))) w):wpList Tryd.prog ops Q (Oper.mk dst (.load 46 x) ty pos after none::rest) a w :=
 wpList_load_row rfl 46 x rfl B hx 46 (ccs c) (0,0) _ hC Tryd.underlying46 rfl (by kernel_rfl) h
theorem ccs_prog (c:Cv):∀ j,j<(pcs c.p).size→(ccs c)[1+j]?=(pcs c.p)[j]?:=by
 intro j hj
 have h10:j<10:=hj
 rcases (by omega:j=0∨j=1∨j=2∨j=3∨j=4∨j=5∨j=6∨j=7∨j=8∨j=9) with rfl | rfl | rfl | rfl | rfl | rfl | rfl | rfl | rfl | rfl <;> rfl
theorem wpList_load_cp {ops:Array Oper} {rest:List Oper} {a:Act} {w:World} {Q:Exit→Act→World→Prop} {dst:Option Tmp} {x:Operand} {ty:TypeId} {pos:String} {after:Array Edge} {B:Nat} {c:Cv} (hC:CB w B c) (hx:a.eval x=.pointer (some ⟨B,1,none⟩))
 (h:wpList Tryd.prog ops Q rest (a.put dst (.agg (pcs c.p))) w):wpList Tryd.prog ops Q (Oper.mk dst (.load 33 x) ty pos after none::rest) a w :=
 wpList_load_part rfl 33 x rfl B 1 hx 46 (ccs c) (pcs c.p) (0,0) _ hC (ccs_prog c) Tryd.underlying33 rfl (by kernel_rfl) h
theorem z1z (c':Cv) {ops:Array Oper} {rest:List Oper} {a:Act} {w:World} {Q:Exit→Act→World→Prop} {dst:Option Tmp} {x y:Operand} {ty:TypeId} {pos:String} {after:Array Edge} {B:Nat} {c:Cv} (hB:CB w B c)
 (hx:a.eval x=.pointer (some ⟨B,0,none⟩)) (hy:a.eval y=.agg (ccs c'))
 (h:wpList Tryd.prog ops Q rest (a.put dst undef) (w.setRow B (ccs c'))):wpList Tryd.prog ops Q (Oper.mk dst (.store 46 x y) ty pos after none::rest) a w :=
 wpList_store_row rfl 46 x y rfl B (ccs c') hx hy 46 (ccs c) hB (by kernel_rfl) rfl (ccs_one c') h
end Go.Proofs.YtclbkfpbdidaiaaDoor
