import Derived.Test.YtclbkfpbdidaiaaGreatDoorPC43
import Derived.Test.YtclbkfpbdidaiaaGreatDoorPC44
namespace Go.Proofs.YtclbkfpbdidaiaaGreatDoor
open Go.RowKit Go.ChangeShapes Go.WideShapes
set_option linter.unusedVariables false
set_option linter.unusedSimpArgs false
set_option maxRecDepth 10000
theorem info_rec:(Tryz.prog.info? 42).map (fun i=>(i.zero,i.size,i.bytes))=some (some (.agg #[.int .u8 0,.int .u32 0,.int .u32 0,.int .u8 0,.bool false,.int .u8 0,.int .u8 0,.int .u8 0,.int .i64 0,.int .u8 0,.int .u8 0,.int .u32 0,.int .u8 0,.slice none 0 0,.slice none 0 0,.slice none 0 0,.int .u8 0,.int .u8 0,.int .u8 0,.int .i64 0]),20,144):=by kernel_rfl
theorem rce_one (r:Rv):∀ u∈rce r,u.oneCell'=true:=by
 intro u hu
 simp only [rce,rcs,List.mem_cons,List.not_mem_nil,or_false] at hu
 rcases hu with rfl | rfl | rfl | rfl | rfl | rfl | rfl | rfl | rfl | rfl | rfl | rfl | rfl | rfl | rfl | rfl | rfl | rfl | rfl | rfl <;> rfl
def ofR (r:Rv):Rx:=r.x [] [] []
theorem ofR_k (X:Rx) (h:X.pg=noP):ofR (rvK X)=X:=q1a h
theorem step_store_cr (c':Cv) {w:World} {ops:Array Oper} {a:Act} {K:Act→World→Prop} {Q:Exit→Act→World→Prop} {E:Prop} {dst:Option Tmp} {x y:Operand} {ty:TypeId} {pos:String} {after:Array Edge} {B:Nat} {c:Cv} (hB:CB w B c)
 (hx:a.eval x=.pointer (some ⟨B,0,none⟩)) (hy:a.eval y=.agg (ccs c'))
 (h:K (a.put dst undef) (w.setRow B (ccs c'))):if Region.wanted (Oper.mk dst (.store 34 x y) ty pos after none) (yielded ops a.tmps)=true then Oper.wp Tryz.prog (Oper.mk dst (.store 34 x y) ty pos after none) a w K Q else E:=by
 rw [if_pos (by simp [Region.wanted])]
 exact wp_store_row 34 x y rfl B (ccs c') hx hy 34 (ccs c) hB (by kernel_rfl) rfl (q0l c') h
theorem results_cr4 {fn:Func} (h:fn.results=#[.cell 4 34,.tmp 5,.tmp 6,.tmp 7]) (tmps:Array Value) (W:World) (R:Nat) (c:Cv) (v5 v6 v7:Value) (hp:tmps.getD 4 undef=.pointer (some ⟨R,0,none⟩)) (h5:tmps.getD 5 undef=v5) (h6:tmps.getD 6 undef=v6) (h7:tmps.getD 7 undef=v7)
 (hB:CB W R c):(results fn tmps).run Tryz.prog W=.ok (.tuple #[.agg (ccs c),v5,v6,v7]) W:=by
 subst h5 h6 h7
 have hp':tmps[4]?.getD undef=.pointer (some ⟨R,0,none⟩):=by simpa using hp
 simp only [results,h]
 simp [Sem.run_bind,Result.andThen,hp',asAddr,run_loadVar_row W R 34 34 (ccs c) (0,0) _ hB Tryz.underlying34 rfl (by kernel_rfl)]
variable {Ju:World→Nat→List Tc→(Nat→Prop)→Prop}
theorem own_first {w:World} {g:Nat} {r:Rv} (h:RB w g r):w.ownsRow 0 42 20 (.slice (some ⟨g,0,none⟩) 1 1) 1 (z0n rce [r]) :=
 ⟨by simp [z0n,q1b],.inr ⟨g,1,rcs r,rfl,Nat.zero_le _,h,Nat.le_refl _,by unfold maxLen;omega,rfl,by rw [z3p];rfl⟩⟩
theorem FoM.start {W w0 w:World} {A B:Nat} {Q:Nat→Prop} {c:Cv} {L:List Ln} {T:List Tk} {M:List Ln} {J:List Tc} {g:Nat} {r:Rv} (hb0:Below W.heap.size W w0) (hm:CvM w0 c L T M) (hb:Below w0.heap.size w0 w) (hc:CB w A c) (hA:w0.heap.size≤A) (hj:Ju w B J Q) (hq:∀ j,Q j→w0.heap.size≤j) (hqa:¬ Q A) (hr:RB w g r) (hg:w0.heap.size≤g) (hga:g≠A) (hgq:¬ Q g):FoM Ju W w A B Q c L T M J (.slice (some ⟨g,0,none⟩) 1 1) [r]:=by
 refine⟨hc,PgM.later hm hb,?_,hj,hqa,fun j hj=>?_,own_first hr,(fun h=>by cases h;exact hga rfl),(fun j h=>by cases h;exact hgq),hb0.trans (hb.mono hb0.size)⟩
 · refine Off.grow (w:=w0) (S:=fun _=>False) ⟨fun _ _ _ h=>h,fun _ _ _ h=>h,fun _ _ _ h=>h⟩ hm fun j hj=>.inr ?_
   rcases hj with e | h | h
   · rw [e];exact hA
   · exact hq j h
   · cases h;exact hg
 · have:=hb0.size
   rcases hj with e | h | h
   · rw [e];omega
   · have:=hq j h;omega
   · cases h;show W.heap.size≤g;omega
theorem FoM.add2 (I:JnF Words Ju) {W w w':World} {A B:Nat} {Q:Nat→Prop} {c:Cv} {L:List Ln} {T:List Tk} {M:List Ln} {J:List Tc} {v v':Value} {H:List Rv} {x:Rv} (h:FoM Ju W w A B Q c L T M J v H) (h1:w'.ownsRow 0 42 20 v' (H.length+1) (z0n rce (H ++ [x]))) (h2:Chg (fun b=>v.ownBlock=some b) w w') (h3:∀ b,v'.ownBlock=some b→v.ownBlock=some b∨w.heap.size≤b):FoM Ju W w' A B Q c L T M J v' (H ++ [x]):=by
 have ht:Turn (fun k=>v.ownBlock=some k) w w':=⟨h2.os,h2.tape,h2.output,h2.size,h2.block⟩
 have hs:∀ j,fblk A Q v' j→fblk A Q v j∨w.heap.size≤j:=by
  rintro j (e | hq | hv)
  · exact .inl (.inl e)
  · exact .inl (.inr (.inl hq))
  · rcases h3 j hv with g | g
    · exact .inl (.inr (.inr g))
    · exact .inr g
 have hA:=h.cb.lt
 refine⟨(ht.block A hA h.va).trans h.cb,z6z h.cm ht ⟨fun h0 a e hq=>h.off.l h0 a e (.inr (.inr hq)),fun h0 a e hq=>h.off.t h0 a e (.inr (.inr hq)),fun h0 a e hq=>h.off.o h0 a e (.inr (.inr hq))⟩,h.off.grow h.cm hs,I.keep h.ju ht (fun j hj e=>h.vq j e hj),h.qa,fun j hj=>?_,by simpa using h1,fun e=>?_,fun j hj hq=>?_,h.below.trans (ht.below h.below.size fun k hk=>h.low k (.inr (.inr hk)))⟩
 · rcases hs j hj with g | g
   · exact h.low j g
   · exact Nat.le_trans h.below.size g
 · rcases h3 A e with g | g
   · exact h.va g
   · omega
 · rcases h3 j hj with g | g
   · exact h.vq j g hq
   · have:=I.lt h.ju _ hq
     omega
end Go.Proofs.YtclbkfpbdidaiaaGreatDoor
