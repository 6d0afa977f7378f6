import Derived.Test.YtclbkfpbdidaiaaGreatDoorPB26
namespace Go.Proofs.YtclbkfpbdidaiaaGreatDoor
open Go.RowKit Go.ChangeShapes Go.WideShapes
set_option linter.unusedVariables false
set_option linter.unusedSimpArgs false
set_option maxRecDepth 10000
theorem z5o {W:World} {K:Act→Prop} {a:Act} {dst:Option Tmp} {x:Operand} {ty:TypeId} {pos:String} {after:Array Edge} {gd:Option (Nat × Bool)} {B:Nat} {c:Cv} (hC:CB W B c) (hx:a.eval x=.pointer (some ⟨B,0,none⟩))
 (hk:K (a.put dst (.agg (ccs c)))):(Oper.mk dst (.load 34 x) ty pos after gd).quiet Tryz.prog a (fun w'=>∃ p:After W,w'=p.w) K:=by
 refine⟨.agg (ccs c),fun w hw=>?_,hk⟩
 obtain⟨p,rfl⟩:=hw
 unfold Oper.quietAt execOp
 simp only [hx,Instr.loadAt,Instr.sureAddr,Sem.run_bind,Sem.run_pure,Result.andThen_ok,run_loadVar_row p.w B 34 34 (ccs c) (0,0) _ (hC.later p.h) Tryz.underlying34 rfl (by kernel_rfl)]
 exact⟨rfl,rfl⟩
theorem z8t {W:World} {K:Act→Prop} {a:Act} {dst:Option Tmp} {x:Operand} {ty:TypeId} {pos:String} {after:Array Edge} {gd:Option (Nat × Bool)} {B:Nat} {c:Cv} (hC:CB W B c) (hx:a.eval x=.pointer (some ⟨B,1,none⟩))
 (hk:K (a.put dst (.agg (pcs c.p)))):(Oper.mk dst (.load 26 x) ty pos after gd).quiet Tryz.prog a (fun w'=>∃ p:After W,w'=p.w) K:=by
 refine⟨.agg (pcs c.p),fun w hw=>?_,hk⟩
 obtain⟨p,rfl⟩:=hw
 unfold Oper.quietAt execOp
 simp only [hx,Instr.loadAt,Instr.sureAddr,Sem.run_bind,Sem.run_pure,Result.andThen_ok,z2l p.w B 1 34 26 (ccs c) (pcs c.p) (0,0) _ (hC.later p.h) (q2d c) Tryz.underlying26 rfl (by kernel_rfl)]
 exact⟨rfl,rfl⟩
theorem nq_load_rc {W:World} {K:Act→Prop} {a:Act} {dst:Option Tmp} {x:Operand} {ty:TypeId} {pos:String} {after:Array Edge} {gd:Option (Nat × Bool)} {B:Nat} {r:Rv} (hC:RB W B r) (hx:a.eval x=.pointer (some ⟨B,0,none⟩))
 (hk:K (a.put dst (.agg (rcs r)))):(Oper.mk dst (.load 42 x) ty pos after gd).quiet Tryz.prog a (fun w'=>∃ p:After W,w'=p.w) K:=by
 refine⟨.agg (rcs r),fun w hw=>?_,hk⟩
 obtain⟨p,rfl⟩:=hw
 unfold Oper.quietAt execOp
 simp only [hx,Instr.loadAt,Instr.sureAddr,Sem.run_bind,Sem.run_pure,Result.andThen_ok,run_loadVar_row p.w B 42 42 (rcs r) (0,0) _ (hC.later p.h) Tryz.underlying42 rfl (by kernel_rfl)]
 exact⟨rfl,rfl⟩
end Go.Proofs.YtclbkfpbdidaiaaGreatDoor
