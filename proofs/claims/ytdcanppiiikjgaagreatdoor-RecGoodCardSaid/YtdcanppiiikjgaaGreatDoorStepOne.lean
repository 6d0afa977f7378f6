/- What a step does by one line: the program's way and the document's. -/
import Derived.Test.YtdcanppiiikjgaaGreatDoorGrStep
namespace Go.Proofs.YtdcanppiiikjgaaGreatDoor
open Go.RowKit Go.ChangeShapes Go.WideShapes
set_option linter.unusedVariables false
set_option maxRecDepth 10000

theorem gives_nil {W w : World} (hb : Below W.heap.size W w) : GivesO W [] (.returned (.slice none 0 0)) w := ⟨none, 0, rfl, SlG.empty _, hb, fun a ha => by cases ha⟩

theorem wrap_neg (q : Int) (h0 : 1 ≤ q) (h : In64 q) : IntKind.i64.wrap (-q) = -q := by
  unfold In64 at h
  exact IntWalk.i64_in _ (by omega)
end Go.Proofs.YtdcanppiiikjgaaGreatDoor
