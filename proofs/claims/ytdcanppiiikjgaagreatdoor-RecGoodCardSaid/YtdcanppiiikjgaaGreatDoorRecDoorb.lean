/- Both tables of words lie in their variables where the row's condition holds. -/
import Derived.Test.YtdcanppiiikjgaaGreatDoorGrRecd
import Derived.LaidMore
import Derived.LaidLaws
import Derived.Lib.LaidTab
import Derived.Lib.SmallJoins
import Derived.MakeChecks
namespace Go.Proofs.YtdcanppiiikjgaaGreatDoor
open Go.RowKit Go.ChangeShapes Go.WideShapes
set_option linter.unusedVariables false
set_option maxRecDepth 10000

theorem rwords_of {W : World} {rest : List (String × DataW Unit)} {ps : List MemPlace} (h : DataW.LaidVars Tryz.prog W (("pledge/rec.words", Rows.laid_pledge_rec_words) :: rest) ps) : RWords W := by
  obtain ⟨g', t', cs, fuel, p, q, hg', ht', hvar, hd, hrest, _⟩ := h
  obtain rfl := Option.some.inj (gRWords.symm.trans hg')
  obtain rfl := Option.some.inj (tRWords.symm.trans ht')
  unfold RWords
  rw [hvar, ← cells_of_strs (zs := rwordsL) Tryz.underlying56 Tryz.underlying9 (by kernel_rfl) (by kernel_rfl) hd]
theorem of_laid2 {W : World} (h : laidMetH Tryz.prog [("pledge/step.words", Rows.laid_pledge_step_words), ("pledge/rec.words", Rows.laid_pledge_rec_words)] W) : Wd2 W := by
  rw [MakeChecks.laidMetH_plain _ _ _ (by kernel_rfl)] at h
  obtain ⟨ps, hl, _⟩ := h
  obtain ⟨h1, q, h2⟩ := words_of hl
  exact ⟨h1, rwords_of h2⟩
/-- The world that the program's own start lays meets the condition. -/
theorem door_met2 (os : Os) (args : Array Value) : laidMetH Tryz.prog [("pledge/step.words", Rows.laid_pledge_step_words), ("pledge/rec.words", Rows.laid_pledge_rec_words)] ((World.doorLaid Tryz.prog 400 os).forCall (fun _ _ => 0) ⟨#[], args, []⟩).memory :=
  laidMetH_of_parts3 (fuel := 8) (laidMet_of_run' 8 (by kernel_rfl) (by kernel_rfl)) (by kernel_rfl) (by kernel_rfl)
end Go.Proofs.YtdcanppiiikjgaaGreatDoor
