/- The steps of a restock: the document's way. -/
import Derived.Test.YtdcanppiiikjgaaDoorPgSteps
namespace Go.Proofs.YtdcanppiiikjgaaDoor
open Go.RowKit Go.ChangeShapes Go.WideShapes
set_option linter.unusedVariables false
set_option linter.unusedSimpArgs false
set_option maxRecDepth 10000

theorem steps_five (od po : Int) (L : List Ln) (T : List Tk) (M : List Ln) (sk fr to q : Int) (h : goodP 4 4 ⟨5, od, po, L, T, M, sk, fr, to, q⟩ = true) : stepsP ⟨5, od, po, L, T, M, sk, fr, to, q⟩ = [((5 : Int), to, [(sk, q)])] ++ (if 1 ≤ T.length then [(1, to, [(sk, namedI T [] sk)]), (8, 0, [(sk, namedI T [] sk)])] else []) := by unfold stepsP; rw [if_pos h]; rfl
theorem five_ok (od po : Int) (L : List Ln) (T : List Tk) (M : List Ln) (sk fr to q : Int) (h : goodP 4 4 ⟨5, od, po, L, T, M, sk, fr, to, q⟩ = true) : okB (namedI T [] sk) = true := by
  have h2 : (sizedB 4 4 && askP 4 4 ⟨5, od, po, L, T, M, sk, fr, to, q⟩ && decide ((⟨5, od, po, L, T, M, sk, fr, to, q⟩ : Pg) = qofP ⟨5, od, po, L, T, M, sk, fr, to, q⟩)) = true := h
  rw [ask5] at h2
  unfold fillsB at h2
  simp only [Bool.and_eq_true] at h2
  exact h2.1.2.2.2.1.2
end Go.Proofs.YtdcanppiiikjgaaDoor
