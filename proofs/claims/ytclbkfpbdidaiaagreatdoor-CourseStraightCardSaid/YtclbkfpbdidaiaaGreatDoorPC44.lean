import Derived.Test.YtclbkfpbdidaiaaGreatDoorPC26
import Derived.Great.BuildSlice
namespace Go.Proofs.YtclbkfpbdidaiaaGreatDoor
open Go.RowKit Go.ChangeShapes Go.WideShapes
set_option linter.unusedVariables false
set_option linter.unusedSimpArgs false
set_option maxRecDepth 10000
theorem infoRec19:(Tryz.prog.info? 42).map (fun i=>(i.zero,i.size))=some (some (.agg (rcs rz)),20):=by kernel_rfl
theorem run_slice_rc (r:Rv) (w:World):(Instr.buildSlice 36 1 #[(0,.agg (rcs r))]).run Tryz.prog w=.ok (.slice (some ⟨w.heap.size,0,none⟩) 1 1) (w.alloc (.cells (rcs r) 42)):=by
 have hin:=infoRec19
 cases hi:Tryz.prog.info? 42 with
 | none=>rw [hi] at hin;cases hin
 | some i =>
  rw [hi] at hin
  simp only [Option.map_some,Option.some.injEq,Prod.mk.injEq] at hin
  refine run_buildSlice w 36 42 1 _ (rcs r) i (.agg (rcs rz)) Tryz.underlying36 hi hin.1 (by rw [hin.2];decide) (by rw [hin.2];decide) ?_
  rw [hin.2]
  kernel_rfl
theorem z5b {w:World} {ops:Array Oper} {a:Act} {K:Act→World→Prop} {Q:Exit→Act→World→Prop} {E:Prop} {dst:Option Tmp} {parts:Array (Nat × Operand)} {x:Operand} {ty:TypeId} {pos:String} {after:Array Edge} {r:Rv} (hp:parts=#[(0,x)]) (hx:a.eval x=.agg (rcs r))
 (h:K (a.put dst (.slice (some ⟨w.heap.size,0,none⟩) 1 1)) (w.alloc (.cells (rcs r) 42))):if Region.wanted (Oper.mk dst (.buildSlice 36 1 parts) ty pos after none) (yielded ops a.tmps)=true then Oper.wp Tryz.prog (Oper.mk dst (.buildSlice 36 1 parts) ty pos after none) a w K Q else E:=by
 rw [if_pos (by simp [Region.wanted])]
 subst hp
 have hb:=run_slice_rc r w
 unfold Oper.wp execOp
 simp [hx,hb,Result.andThen,Sem.run_bind]
 exact h
end Go.Proofs.YtclbkfpbdidaiaaGreatDoor
