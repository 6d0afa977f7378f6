/- The document's own halves of a number. -/
import Derived.Test.YtnmdplefedffnaaDoorCalcSum
namespace Go.Proofs.YtnmdplefedffnaaDoor
open Go.RowKit
set_option linter.unusedVariables false

/-- A block of two cells that was laid ahead of a call that writes nothing old. -/
theorem two_cells {w w' : World} {c0 c1 : Value} {T : TypeId} (h : Below (w.alloc (.cells #[c0, c1] T)).heap.size (w.alloc (.cells #[c0, c1] T)) w') :
    w'.cell? ⟨w.heap.size, 0, none⟩ = some c0 ∧ w'.cell? ⟨w.heap.size, 1, none⟩ = some c1 ∧ w'.frozen? ⟨w.heap.size, 0, none⟩ = false ∧ w'.frozen? ⟨w.heap.size, 1, none⟩ = false ∧ w.heap.size < w'.heap.size := by
  refine ⟨?_, ?_, ?_, ?_, ?_⟩
  · rw [h.cell (p := ⟨w.heap.size, 0, none⟩) (by simp)]; simp
  · rw [h.cell (p := ⟨w.heap.size, 1, none⟩) (by simp)]; simp
  · rw [h.frozen (p := ⟨w.heap.size, 0, none⟩) (by simp)]; simp
  · rw [h.frozen (p := ⟨w.heap.size, 1, none⟩) (by simp)]; simp
  · have := h.size; simp at this; omega

/-- The upper and the lower half. -/
def hiH (a : Int) : Int := a / 4294967296
def loH (a : Int) : Int := a % 4294967296
theorem halves_bd (a : Int) (h0 : -9223372036854775808 ≤ a) (h1 : a ≤ 9223372036854775807) : -2147483648 ≤ hiH a ∧ hiH a ≤ 2147483647 ∧ 0 ≤ loH a ∧ loH a ≤ 4294967295 := by unfold hiH loH; omega
theorem halves_up (a : Int) : -1 - hiH (-(a + 1)) = hiH a ∧ 4294967295 - loH (-(a + 1)) = loH a := by unfold hiH loH; omega

end Go.Proofs.YtnmdplefedffnaaDoor
