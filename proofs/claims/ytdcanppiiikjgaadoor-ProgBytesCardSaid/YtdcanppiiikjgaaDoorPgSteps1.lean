/- A program's steps: the document's way: all kinds. -/
import Derived.Test.YtdcanppiiikjgaaDoorPgSteps5
namespace Go.Proofs.YtdcanppiiikjgaaDoor
open Go.RowKit Go.ChangeShapes Go.WideShapes
set_option linter.unusedVariables false
set_option linter.unusedSimpArgs false
set_option maxRecDepth 10000

def waresS (k : Int) (T : List Tk) (j : Nat) : List Stp := (List.range j).flatMap fun w : Nat => atS k (w : Int) T
theorem waresS_step (k : Int) (T : List Tk) (j : Nat) : waresS k T (j + 1) = waresS k T j ++ atS k (j : Int) T := by
  unfold waresS
  rw [List.range_succ, List.flatMap_append]
  simp
theorem steps_four {P : Pg} (h : goodP 4 4 P = true) (h5 : P.kind ≠ 5) (h6 : P.kind ≠ 6) : stepsP P = waresS P.kind P.takes 4 ++ owesS P.kind P.owes := by
  unfold stepsP
  rw [if_pos h, if_neg h5, if_neg h6]; rfl
end Go.Proofs.YtdcanppiiikjgaaDoor
