/- What undoes additions: the document's way. -/
import Derived.Test.YtnmdplefedffnaaDoorOpRow
import Derived.Test.YtnmdplefedffnaaDoorCalcPairs
namespace Go.Proofs.YtnmdplefedffnaaDoor
open Go.RowKit Go.ChangeShapes Go.WideShapes
set_option linter.unusedVariables false

/-- A call that hands back additions of its own, and a bool. -/
def GivesOB (W : World) (V : List O) (ok : Bool) (e : Ending) (w' : World) : Prop := ∃ p c, e = .returned (.tuple #[.slice p V.length c, .bool ok]) ∧ OL w' p V.length c V ∧ Below W.heap.size W w' ∧ ∀ a, p = some a → W.heap.size ≤ a.block
theorem givesOB_none {W w' : World} (hb : Below W.heap.size W w') : GivesOB W [] false (.returned (.tuple #[.slice none 0 0, .bool false])) w' := ⟨none, 0, rfl, SlG.empty _, hb, fun a ha => by cases ha⟩
theorem FillG.slice {W wr : World} {v : Value} {L : List O} {N : Nat} (h : FillO W wr v L N) : ∃ p c, v = .slice p L.length c ∧ OL wr p L.length c L ∧ ∀ a, p = some a → W.heap.size ≤ a.block := SlG.of_own oc_len (by decide) h.own
theorem FillG.givesB {W wr : World} {v : Value} {L : List O} {N : Nat} (h : FillO W wr v L N) : GivesOB W L true (.returned (.tuple #[v, .bool true])) wr := by
  obtain ⟨p, c, rfl, hs, hp⟩ := h.slice
  exact ⟨p, c, rfl, hs, h.below, hp⟩
theorem negV_true {L : List O} (h : negB L = true) : negV L = negF L := if_pos h
theorem negV_false {L : List O} (h : negB L = false) : negV L = [] := by unfold negV; rw [h]; rfl

end Go.Proofs.YtnmdplefedffnaaDoor
