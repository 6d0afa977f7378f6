/- The document's Cost of a record. -/
import Derived.Test.YtdcanppiiikjgaaGreatDoorGrRecc
namespace Go.Proofs.YtdcanppiiikjgaaGreatDoor
open Go.RowKit Go.ChangeShapes Go.WideShapes
set_option linter.unusedVariables false
set_option linter.unusedSimpArgs false
set_option maxRecDepth 10000

theorem rcost_any (k : Int) (h0 : 0 ≤ k) (W : World) : Calls Tryz.prog 12 #[.int .u8 k] W fun e w' => e = .returned (.int .i64 (costI k)) ∧ w' = W := by
  by_cases h9 : 2 ≤ k ∧ k ≤ 9
  · rcases (by omega : k = 2 ∨ k = 3 ∨ k = 4 ∨ k = 5 ∨ k = 6 ∨ k = 7 ∨ k = 8 ∨ k = 9) with rfl | rfl | rfl | rfl | rfl | rfl | rfl | rfl
    all_goals
      go_enter Tryz.func12, Tryz.ntmps12
      go_wp2_with fail
      go_ret
      exact ⟨rfl, rfl⟩
  · have e2 : (k == 2) = false := by simp; omega
    have e3 : (k == 3) = false := by simp; omega
    have e4 : (k == 4) = false := by simp; omega
    have e5 : (k == 5) = false := by simp; omega
    have e6 : (k == 6) = false := by simp; omega
    have e7 : (k == 7) = false := by simp; omega
    have e8 : (k == 8) = false := by simp; omega
    have e9 : (k == 9) = false := by simp; omega
    have HC : Hid (costI k = 0) := Lib.hid (if_neg fun h => by have := kOk_cases h.1; omega)
    clear h9 h0
    go_enter Tryz.func12, Tryz.ntmps12
    go_wp2_with fail
    go_ret
    exact ⟨by rw [HC.out]; rfl, rfl⟩
end Go.Proofs.YtdcanppiiikjgaaGreatDoor
