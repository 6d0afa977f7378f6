/- A program's steps: the document's way. -/
/- The steps of a restock: the document's way. -/
/- A program's steps: the document's way: all kinds. -/
import Derived.Test.YtdcanppiiikjgaaGreatDoorPgAt
import Derived.Test.YtdcanppiiikjgaaGreatDoorGrProgj
namespace Go.Proofs.YtdcanppiiikjgaaGreatDoor
open Go.RowKit Go.ChangeShapes Go.WideShapes
set_option linter.unusedVariables false
set_option linter.unusedSimpArgs false
set_option maxRecDepth 10000

/-- A step that a call has handed back, as a header. -/
def hsOf (t w : Int) (p : Option Addr) (n c : Nat) : Hs := (t, w, p, n, c)
theorem gives_none {W w : World} (hb : Below W.heap.size W w) : GivesS W [] (.returned (.slice none 0 0)) w := ⟨none, 0, [], rfl, ⟨SlG.empty _, trivial⟩, hb⟩
theorem steps_no {P : Pg} (h : goodP 4 4 P = false) : stepsP P = [] := by unfold stepsP; rw [h]; rfl
theorem steps_six (od po : Int) (L : List Ln) (T : List Tk) (M : List Ln) (sk fr to q : Int) (h : goodP 4 4 ⟨6, od, po, L, T, M, sk, fr, to, q⟩ = true) : stepsP ⟨6, od, po, L, T, M, sk, fr, to, q⟩ = [(6, fr, [(sk, q)]), (5, to, [(sk, q)])] := by unfold stepsP; rw [if_pos h]; rfl
end Go.Proofs.YtdcanppiiikjgaaGreatDoor
namespace Go.Proofs.YtdcanppiiikjgaaGreatDoor
open Go.RowKit Go.ChangeShapes Go.WideShapes
set_option linter.unusedVariables false
set_option linter.unusedSimpArgs false
set_option maxRecDepth 10000

theorem steps_five (od po : Int) (L : List Ln) (T : List Tk) (M : List Ln) (sk fr to q : Int) (h : goodP 4 4 ⟨5, od, po, L, T, M, sk, fr, to, q⟩ = true) : stepsP ⟨5, od, po, L, T, M, sk, fr, to, q⟩ = [((5 : Int), to, [(sk, q)])] ++ (if 1 ≤ T.length then [(1, to, [(sk, namedI T [] sk)]), (8, 0, [(sk, namedI T [] sk)])] else []) := by unfold stepsP; rw [if_pos h]; rfl
theorem five_ok (od po : Int) (L : List Ln) (T : List Tk) (M : List Ln) (sk fr to q : Int) (h : goodP 4 4 ⟨5, od, po, L, T, M, sk, fr, to, q⟩ = true) : okB (namedI T [] sk) = true := by
  have h2 : (sizedB 4 4 && askP 4 4 ⟨5, od, po, L, T, M, sk, fr, to, q⟩ && decide ((⟨5, od, po, L, T, M, sk, fr, to, q⟩ : Pg) = qofP ⟨5, od, po, L, T, M, sk, fr, to, q⟩)) = true := h
  rw [ask5] at h2
  unfold fillsB at h2
  simp only [Bool.and_eq_true] at h2
  exact h2.1.2.2.2.1.2
end Go.Proofs.YtdcanppiiikjgaaGreatDoor
namespace Go.Proofs.YtdcanppiiikjgaaGreatDoor
open Go.RowKit Go.ChangeShapes Go.WideShapes
set_option linter.unusedVariables false
set_option linter.unusedSimpArgs false
set_option maxRecDepth 10000

def waresS (k : Int) (T : List Tk) (j : Nat) : List Stp := (List.range j).flatMap fun w : Nat => atS k (w : Int) T
theorem waresS_step (k : Int) (T : List Tk) (j : Nat) : waresS k T (j + 1) = waresS k T j ++ atS k (j : Int) T := by
  unfold waresS
  rw [List.range_succ, List.flatMap_append]
  simp
theorem steps_four {P : Pg} (h : goodP 4 4 P = true) (h5 : P.kind ≠ 5) (h6 : P.kind ≠ 6) : stepsP P = waresS P.kind P.takes 4 ++ owesS P.kind P.owes := by
  unfold stepsP
  rw [if_pos h, if_neg h5, if_neg h6]; rfl
end Go.Proofs.YtdcanppiiikjgaaGreatDoor
