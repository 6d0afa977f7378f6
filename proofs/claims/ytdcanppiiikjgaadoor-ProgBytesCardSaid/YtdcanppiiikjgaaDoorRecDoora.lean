/- The words of the steps lie in their variable where the row's condition holds. -/
import Derived.Test.YtdcanppiiikjgaaDoorRecWord
import Derived.LaidMore
import Derived.LaidLaws
import Derived.Lib.LaidTab
import Derived.Lib.SmallJoins
import Derived.MakeChecks
namespace Go.Proofs.YtdcanppiiikjgaaDoor
open Go.RowKit Go.ChangeShapes Go.WideShapes
set_option linter.unusedVariables false
set_option maxRecDepth 10000

theorem of_laid1 {W : World} (h : laidMetH Tryd.prog [("pledge/step.words", Rows.laid_pledge_step_words)] W) : Words W := by
  rw [MakeChecks.laidMetH_plain _ _ _ (by kernel_rfl)] at h
  obtain ⟨ps, hl, _⟩ := h
  exact (words_of hl).1
/-- The world that the program's own start lays meets the condition. -/
theorem door_met1 (os : Os) (args : Array Value) : laidMetH Tryd.prog [("pledge/step.words", Rows.laid_pledge_step_words)] ((World.doorLaid Tryd.prog 400 os).forCall (fun _ _ => 0) ⟨#[], args, []⟩).memory :=
  laidMetH_of_parts3 (fuel := 8) (laidMet_of_run' 8 (by kernel_rfl) (by kernel_rfl)) (by kernel_rfl) (by kernel_rfl)
end Go.Proofs.YtdcanppiiikjgaaDoor
