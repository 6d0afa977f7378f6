/- Both tables of words lie in their variables where the row's condition holds. -/
/- The sum's table and both tables of words lie in their variables where the row's condition holds. -/
import Derived.Test.YtdcanppiiikjgaaDoorGrRecd
import Derived.LaidMore
import Derived.LaidLaws
import Derived.Lib.LaidTab
import Derived.Lib.SmallJoins
import Derived.MakeChecks
import Derived.Test.YtdcanppiiikjgaaDoorGrRece
namespace Go.Proofs.YtdcanppiiikjgaaDoor
open Go.RowKit Go.ChangeShapes Go.WideShapes
set_option linter.unusedVariables false
set_option maxRecDepth 10000

theorem rwords_of {W : World} {rest : List (String × DataW Unit)} {ps : List MemPlace} (h : DataW.LaidVars Tryd.prog W (("pledge/rec.words", Rows.laid_pledge_rec_words) :: rest) ps) : RWords W := by
  obtain ⟨g', t', cs, fuel, p, q, hg', ht', hvar, hd, hrest, _⟩ := h
  obtain rfl := Option.some.inj (gRWords.symm.trans hg')
  obtain rfl := Option.some.inj (tRWords.symm.trans ht')
  unfold RWords
  rw [hvar, ← cells_of_strs (zs := rwordsL) Tryd.underlying109 Tryd.underlying9 (by kernel_rfl) (by kernel_rfl) hd]
theorem of_laid2 {W : World} (h : laidMetH Tryd.prog [("pledge/step.words", Rows.laid_pledge_step_words), ("pledge/rec.words", Rows.laid_pledge_rec_words)] W) : Wd2 W := by
  rw [MakeChecks.laidMetH_plain _ _ _ (by kernel_rfl)] at h
  obtain ⟨ps, hl, _⟩ := h
  obtain ⟨h1, q, h2⟩ := words_of hl
  exact ⟨h1, rwords_of h2⟩
/-- The world that the program's own start lays meets the condition. -/
theorem door_met2 (os : Os) (args : Array Value) : laidMetH Tryd.prog [("pledge/step.words", Rows.laid_pledge_step_words), ("pledge/rec.words", Rows.laid_pledge_rec_words)] ((World.doorLaid Tryd.prog 400 os).forCall (fun _ _ => 0) ⟨#[], args, []⟩).memory :=
  laidMetH_of_parts3 (fuel := 8) (laidMet_of_run' 8 (by kernel_rfl) (by kernel_rfl)) (by kernel_rfl) (by kernel_rfl)
end Go.Proofs.YtdcanppiiikjgaaDoor
namespace Go.Proofs.YtdcanppiiikjgaaDoor
open Go.RowKit Go.ChangeShapes Go.WideShapes
set_option linter.unusedVariables false
set_option maxRecDepth 10000

theorem gHalves3 : Tryd.prog.globalNamed "pledge/crc.halves" = some 1 := by kernel_rfl
theorem tHalves3 : (Tryd.prog.globals[1]?).map (·.type) = some 150 := by kernel_rfl
def Wd3 (W : World) : Prop := Tab W ∧ Wd2 W
theorem Wd3.later {W W' : World} (h : Wd3 W) (hb : Below W.heap.size W W') : Wd3 W' := ⟨h.1.later hb h.1.lt, h.2.later hb⟩
theorem of_laid3 {W : World} (h : laidMetH Tryd.prog [("pledge/crc.halves", Rows.laid_pledge_crc_halves), ("pledge/step.words", Rows.laid_pledge_step_words), ("pledge/rec.words", Rows.laid_pledge_rec_words)] W) : Wd3 W := by
  rw [MakeChecks.laidMetH_plain _ _ _ (by kernel_rfl)] at h
  have hT : Lib.TabIs Tryd.prog W "pledge/crc.halves" .u32 (halfTab.map Int.ofNat) := Lib.tabIs_of_head gHalves3 tHalves3 Tryd.underlying150 Tryd.underlying22 (by kernel_rfl) (by kernel_rfl) h
  obtain ⟨ps, ⟨g', t', cs, fuel, p, q, hg', ht', hvar, hd, hl, _⟩, _⟩ := h
  obtain ⟨h1, q2, h2⟩ := words_of hl
  refine ⟨?_, h1, rwords_of h2⟩
  intro i hi
  rw [hT.cell gHalves3 i (by simpa [halfTab] using hi)]
  have : ∀ i, i < 16 → (halfTab.map Int.ofNat).getD i 0 = ((halfTab.getD i 0 : Nat) : Int) := by decide
  rw [this i hi]
/-- The world that the program's own start lays meets the condition. -/
theorem door_met3 (os : Os) (args : Array Value) : laidMetH Tryd.prog [("pledge/crc.halves", Rows.laid_pledge_crc_halves), ("pledge/step.words", Rows.laid_pledge_step_words), ("pledge/rec.words", Rows.laid_pledge_rec_words)] ((World.doorLaid Tryd.prog 400 os).forCall (fun _ _ => 0) ⟨#[], args, []⟩).memory :=
  laidMetH_of_parts3 (fuel := 8) (laidMet_of_run' 8 (by kernel_rfl) (by kernel_rfl)) (by kernel_rfl) (by kernel_rfl)
end Go.Proofs.YtdcanppiiikjgaaDoor
