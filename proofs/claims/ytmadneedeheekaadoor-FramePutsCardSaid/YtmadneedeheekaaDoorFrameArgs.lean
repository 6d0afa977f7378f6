/- Bytes that came in. -/
import Derived.Test.YtmadneedeheekaaDoorFrameSame
import Derived.Test.YtmadneedeheekaaDoorCrcLaid
namespace Go.Proofs.YtmadneedeheekaaDoor
open Go.RowKit Go.ChangeShapes Go.WideShapes
set_option linter.unusedVariables false

/-- The least of a length and a bound, as the walk spells it. -/
theorem least_of (len B : Nat) : ∃ k : Nat, (if (B : Int) < (len : Int) then (B : Int) else (len : Int)) = (k : Int) ∧ k ≤ len ∧ k ≤ B := by
  by_cases h : (B : Int) < (len : Int)
  · exact ⟨B, by rw [if_pos h], by omega, Nat.le_refl _⟩
  · exact ⟨len, by rw [if_neg h], Nat.le_refl _, by omega⟩
theorem min_of (len B : Nat) : ∃ k : Nat, min (len : Int) (B : Int) = (k : Int) ∧ k ≤ len ∧ k ≤ B := ⟨min len B, by omega, Nat.min_le_left .., Nat.min_le_right ..⟩
end Go.Proofs.YtmadneedeheekaaDoor
