/- Bytes that came in. -/
import Derived.Test.YtmadneedeheekaaDoorFrameSame
import Derived.Test.YtmadneedeheekaaDoorCrcLaid
namespace Go.Proofs.YtmadneedeheekaaDoor
open Go.RowKit Go.ChangeShapes Go.WideShapes
set_option linter.unusedVariables false

/-- The least of a length and a bound, as the walk spells it. -/
theorem least_of (len B : Nat) : ∃ k : Nat, (if (B : Int) < (len : Int) then (B : Int) else (len : Int)) = (k : Int) ∧ k ≤ len ∧ k ≤ B := by
  by_cases h : (B : Int) < (len : Int)
  · exact ⟨B, by rw [if_pos h], by omega, Nat.le_refl _⟩
  · exact ⟨len, by rw [if_neg h], Nat.le_refl _, by omega⟩
theorem min_of (len B : Nat) : ∃ k : Nat, min (len : Int) (B : Int) = (k : Int) ∧ k ≤ len ∧ k ≤ B := ⟨min len B, by omega, Nat.min_le_left .., Nat.min_le_right ..⟩
theorem scanF_few : ∀ (f : Nat) (B : List Nat), (scanF f B).1.length ≤ B.length
  | 0, _ => Nat.zero_le _
  | f + 1, B => by
    unfold scanF
    split
    · exact Nat.zero_le _
    · split
      · rename_i h0 h1
        have := nE_zero h1
        have ih := scanF_few f (B.drop (6 + nN B))
        rw [List.length_drop] at ih
        show (scanF f (B.drop (6 + nN B))).1.length + 1 ≤ B.length
        omega
      · exact Nat.zero_le _
theorem scan_few (B : List Nat) (h : B.length ≤ 100000) : (scan B).1.length ≤ 100000 := Nat.le_trans (scanF_few _ B) h
end Go.Proofs.YtmadneedeheekaaDoor
