/- A program's steps: the document's way. -/
import Derived.Test.YtdcanppiiikjgaaDoorPgAt
import Derived.Test.YtdcanppiiikjgaaDoorPgGoodAll
namespace Go.Proofs.YtdcanppiiikjgaaDoor
open Go.RowKit Go.ChangeShapes Go.WideShapes
set_option linter.unusedVariables false
set_option linter.unusedSimpArgs false
set_option maxRecDepth 10000

/-- A step that a call has handed back, as a header. -/
def hsOf (t w : Int) (p : Option Addr) (n c : Nat) : Hs := (t, w, p, n, c)
theorem gives_none {W w : World} (hb : Below W.heap.size W w) : GivesS W [] (.returned (.slice none 0 0)) w := ⟨none, 0, [], rfl, ⟨SlG.empty _, trivial⟩, hb⟩
theorem steps_no {P : Pg} (h : goodP 4 4 P = false) : stepsP P = [] := by unfold stepsP; rw [h]; rfl
theorem steps_six (od po : Int) (L : List Ln) (T : List Tk) (M : List Ln) (sk fr to q : Int) (h : goodP 4 4 ⟨6, od, po, L, T, M, sk, fr, to, q⟩ = true) : stepsP ⟨6, od, po, L, T, M, sk, fr, to, q⟩ = [(6, fr, [(sk, q)]), (5, to, [(sk, q)])] := by unfold stepsP; rw [if_pos h]; rfl
end Go.Proofs.YtdcanppiiikjgaaDoor
