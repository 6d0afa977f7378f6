import Derived.Test.YtclbkfpbdidaiaaDoorPA26
namespace Go.Proofs.YtclbkfpbdidaiaaDoor
open Go.RowKit Go.ChangeShapes Go.WideShapes
set_option linter.unusedVariables false
set_option maxRecDepth 10000
theorem ask6 (s w od po:Int) (L:List Ln) (T:List Tk) (M:List Ln) (sk fr to q:Int):askP s w ⟨6,od,po,L,T,M,sk,fr,to,q⟩=(decide (sk<s) && decide (fr<w) && decide (to<w) && decide (fr≠to) && decide (1≤q)):=rfl
theorem qof6 (od po:Int) (L:List Ln) (T:List Tk) (M:List Ln) (sk fr to q:Int):qofP ⟨6,od,po,L,T,M,sk,fr,to,q⟩=⟨6,0,0,[],[],[],sk,fr,to,q⟩:=rfl
theorem goodP_unsized {s w:Int} {P:Pg} (h:z0o s w=false):z0s s w P=false:=by unfold z0s;rw [h];rfl
theorem goodP_kind {s w:Int} {P:Pg} (h:P.kind≠1∧P.kind≠2∧P.kind≠3∧P.kind≠4∧P.kind≠5∧P.kind≠6):z0s s w P=false:=by
 unfold z0s askP
 rw [if_neg h.1,if_neg h.2.1,if_neg (by omega),if_neg h.2.2.2.2.1,if_neg h.2.2.2.2.2,Bool.and_false];rfl
theorem of_laid {W:World} (h:laidMetH Tryd.prog Rows.needStepsRow.laid W):Words W:=by
 rw [MakeChecks.laidMetH_plain _ _ _ (by kernel_rfl)] at h
 obtain⟨ps,⟨g',t',cs,fuel,p,q,hg',ht',hvar,hd,_,_⟩,_⟩:=h
 obtain rfl:=Option.some.inj (gWords.symm.trans hg')
 obtain rfl:=Option.some.inj (tWords.symm.trans ht')
 unfold Words
 rw [hvar,← cells_of_strs (zs:=wordsL) Tryd.underlying135 Tryd.underlying9 (by kernel_rfl) (by kernel_rfl) hd]
theorem door_met (os:Os) (args:Array Value):laidMetH Tryd.prog Rows.needStepsRow.laid ((World.doorLaid Tryd.prog 400 os).forCall (fun _ _=>0) ⟨#[],args,[]⟩).memory :=
 laidMetH_of_parts3 (fuel:=8) (laidMet_of_run' 8 (by kernel_rfl) (by kernel_rfl)) (by kernel_rfl) (by kernel_rfl)
end Go.Proofs.YtclbkfpbdidaiaaDoor
