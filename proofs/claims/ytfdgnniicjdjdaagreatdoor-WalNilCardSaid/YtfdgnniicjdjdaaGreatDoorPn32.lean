import Derived.Test.YtfdgnniicjdjdaaGreatDoorPn31
import Derived.OwnWalk
import Derived.ArgAppend
import Derived.Deep.OwnRows
import Derived.Deep.Slices
import Derived.Deep.Fields
import Derived.Laws.AppendOwn
namespace Go.Proofs.YtfdgnniicjdjdaaGreatDoor
open Go.RowKit Go.ChangeShapes Go.WideShapes Go.Deep
set_option linter.unusedVariables false
set_option maxRecDepth 10000
theorem Kok.getD {L : List K} (h : ∀ k ∈ L, Kok k) (j : Nat) : Kok (L.getD j (0, 0, 0)) := by
  rw [List.getD]
  by_cases hj : j < L.length
  · rw [List.getElem?_eq_getElem hj]; exact h _ (List.getElem_mem hj)
  · rw [List.getElem?_eq_none (by omega)]; exact ⟨by simp, by simp, by simp⟩
section
variable {H : Type} {enc : TypeId × Value → H} {P : Program} {w : World} {base : Nat} {spare : Nat → Bool} {held : Bool}
end
end Go.Proofs.YtfdgnniicjdjdaaGreatDoor
