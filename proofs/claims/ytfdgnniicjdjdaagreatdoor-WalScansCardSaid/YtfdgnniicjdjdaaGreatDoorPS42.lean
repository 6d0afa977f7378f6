import Derived.Test.YtfdgnniicjdjdaaGreatDoorPS41
import Derived.OwnWalkIn
import Derived.Great.BuildSlice
namespace Go.Proofs.YtfdgnniicjdjdaaGreatDoor
open Go.RowKit Go.ChangeShapes Go.WideShapes
set_option linter.unusedVariables false
set_option linter.unusedSimpArgs false
set_option maxRecDepth 10000
section
variable {F:Fence} {nF:Nat} {w:World} {ops:Array Oper} {rest:List Oper} {a:Act} {Q:Exit→Act→World→Prop} {dst:Option Tmp} {ty:TypeId} {pos:String} {after:Array Edge}
theorem in_load_rc {x:Operand} {B:Nat} {r:Rv} (hF:∀ f,F.fn f) (hC:RB w B r) (hx:a.eval x=.pointer (some ⟨B,0,none⟩))
 (h:wpListIn F nF Tryz.prog ops Q rest (a.put dst (.agg (rcs r))) w):wpListIn F nF Tryz.prog ops Q (Oper.mk dst (.load 51 x) ty pos after none::rest) a w:=by
 refine wpListIn_plain rfl fun K hK=>?_
 unfold Oper.wpIn
 refine⟨fun f _=>hF f,?_⟩
 rw [Oper.semAt_plain F _ _ (by intro c hc';cases hc')]
 unfold execOp
 simp only [hx,Instr.loadAt,Instr.sureAddr,Sem.run_bind,Sem.run_pure,Result.andThen_ok,run_loadVar_row (P:=Tryz.prog) w B 51 51 (rcs r) (0,0) _ hC Tryz.underlying51 rfl (by kernel_rfl)]
 exact hK _ _ h
theorem in_store_rc (r':Rv) {x y:Operand} {B:Nat} {r:Rv} (hF:∀ f,F.fn f) (hB:RB w B r) (hx:a.eval x=.pointer (some ⟨B,0,none⟩)) (hy:a.eval y=.agg (rcs r'))
 (h:wpListIn F nF Tryz.prog ops Q rest (a.put dst undef) (w.setRow B (rcs r'))):wpListIn F nF Tryz.prog ops Q (Oper.mk dst (.store 51 x y) ty pos after none::rest) a w:=by
 refine wpListIn_plain rfl fun K hK=>?_
 unfold Oper.wpIn
 refine⟨fun f _=>hF f,?_⟩
 rw [Oper.semAt_plain F _ _ (by intro c hc';cases hc')]
 unfold execOp
 simp only [hx,hy,Instr.storeAt,Instr.sureAddr,Sem.run_bind,Sem.run_pure,Result.andThen_ok,run_storeVar_row (P:=Tryz.prog) w B 51 51 (rcs r) (rcs r') hB (by kernel_rfl) rfl (z2c r')]
 exact hK _ _ h
theorem in_build_e {parts:Array (Nat × Operand)} {x y:Operand} {v:Int} {r:Rv} (hF:∀ f,F.fn f) (hp:parts=#[(0,x),(1,y)]) (hx:a.eval x=.int .i64 v) (hy:a.eval y=.agg (rcs r))
 (h:wpListIn F nF Tryz.prog ops Q rest (a.put dst (.agg (ecs (v,r)))) w):wpListIn F nF Tryz.prog ops Q (Oper.mk dst (.build 85 parts) ty pos after none::rest) a w:=by
 refine wpListIn_plain rfl fun K hK=>?_
 subst hp
 unfold Oper.wpIn
 refine⟨fun f _=>hF f,?_⟩
 rw [Oper.semAt_plain F _ _ (by intro c hc';cases hc')]
 have hb:(Instr.build 85 #[(0,.int .i64 v),(1,.agg (rcs r))]).run Tryz.prog w=.ok (.agg (ecs (v,r))) w:=by kernel_rfl
 unfold execOp
 simp only [List.map_toArray,List.map_cons,List.map_nil,Array.map,hx,hy]
 simp [hx,hy,hb,Result.andThen,Sem.run_bind]
 exact hK _ _ h
theorem run_slice_e (h:Eh) (w:World):(Instr.buildSlice 74 1 #[(0,.agg (ecs h))]).run Tryz.prog w=.ok (.slice (some ⟨w.heap.size,0,none⟩) 1 1) (w.alloc (.cells (ecs h) 85)):=by
 obtain⟨i,hi,hz0,hz1,hz2⟩:=info_parts info_entry
 refine run_buildSlice w 74 85 1 _ (ecs h) i (.agg (ecs eh0)) Tryz.underlying74 hi hz0 (by rw [hz1];decide) (by rw [hz1];decide) ?_
 rw [hz1]
 kernel_rfl
theorem in_slice_e {parts:Array (Nat × Operand)} {x:Operand} {h':Eh} (hF:∀ f,F.fn f) (hp:parts=#[(0,x)]) (hx:a.eval x=.agg (ecs h'))
 (h:wpListIn F nF Tryz.prog ops Q rest (a.put dst (.slice (some ⟨w.heap.size,0,none⟩) 1 1)) (w.alloc (.cells (ecs h') 85))):wpListIn F nF Tryz.prog ops Q (Oper.mk dst (.buildSlice 74 1 parts) ty pos after none::rest) a w:=by
 refine wpListIn_plain rfl fun K hK=>?_
 subst hp
 unfold Oper.wpIn
 refine⟨fun f _=>hF f,?_⟩
 rw [Oper.semAt_plain F _ _ (by intro c hc';cases hc')]
 have hb:=run_slice_e h' w
 unfold execOp
 simp [hx,hb,Result.andThen,Sem.run_bind]
 exact hK _ _ h
theorem in_append_e {lo:Nat} {o:Oper} (hF:∀ f,F.fn f) (hgd:o.guard=none) (s x:Operand)
 (ho:o.op=.call { callee:=.builtin .append,args:=#[s,x],argTypes:=#[74,74] })
 (v:Value) (H:List Eh) (S:List En) (hs:a.eval s=v) (hFE:FE lo w v H S) (B:Nat) (h':Eh) (E':En) (hx:a.eval x=.slice (some ⟨B,0,none⟩) 1 1)
 (hB:w.heap[B]?=some (.cells (ecs h') 85 (0,0))) (hT:TellsE w h' E') (hapart':∀ b,Lb h'.2 b→v.ownBlock≠some b) (hlow:∀ b,Lb h'.2 b→lo≤b) (hlo:lo≤w.heap.size) (hbig:H.length+1≤1000000)
 (h:∀ p' c' w',FE lo w' (.slice p' (H.length+1) c') (H ++ [h']) (S ++ [E'])→Chg (fun b=>v.ownBlock=some b) w w'→(∀ b,v.ownBlock=some b→lo≤b)→wpListIn F nF Tryz.prog ops Q rest (a.put o.dst (.slice p' (H.length+1) c')) w'):wpListIn F nF Tryz.prog ops Q (o::rest) a w:=by
 refine wpListIn_plain hgd fun K hK=>?_
 obtain⟨p',c',w',hrun,h1,h2,h3⟩:=run_append_e hFE B h' E' hB hT hapart' hlow hlo hbig o.type
 unfold Oper.wpIn
 refine⟨fun f _=>hF f,?_⟩
 rw [Oper.semAt_plain F _ _ (by rw [ho];intro c hc';cases hc')]
 simp [execOp,ho,resolve,invoke,builtin,hs,hx,hrun,Result.andThen]
 exact hK _ _ (h p' c' w' h1 h2 h3)
end
end Go.Proofs.YtfdgnniicjdjdaaGreatDoor
