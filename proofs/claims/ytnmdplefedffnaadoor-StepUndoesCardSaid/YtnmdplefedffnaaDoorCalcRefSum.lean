/- The document's own sum. -/
import Derived.Test.YtnmdplefedffnaaDoorCalcHalves
namespace Go.Proofs.YtnmdplefedffnaaDoor
open Go.RowKit
set_option linter.unusedVariables false

theorem step_no (s x : Int) (h : ¬ 4294967296 ≤ loH s + loH x) : hiH s + hiH x = hiH (s + x) ∧ loH s + loH x = loH (s + x) := by unfold hiH loH at *; omega
theorem step_yes (s x : Int) (h : 4294967296 ≤ loH s + loH x) : hiH s + hiH x + 1 = hiH (s + x) ∧ loH s + loH x - 4294967296 = loH (s + x) := by unfold hiH loH at *; omega
theorem parts_bd (s : Int) (n : Nat) (hn : n ≤ 1000000) (h0 : -9223372036854775808 * (n : Int) ≤ s) (h1 : s ≤ 9223372036854775807 * (n : Int)) : -2147483648000000 ≤ hiH s ∧ hiH s ≤ 2147483648000000 ∧ 0 ≤ loH s ∧ loH s ≤ 4294967295 := by
  unfold hiH loH; omega
theorem fits_parts (s : Int) : (-2147483648 ≤ hiH s ∧ hiH s ≤ 2147483647) ↔ (-9223372036854775808 ≤ s ∧ s ≤ 9223372036854775807) := by unfold hiH; omega
theorem whole_parts (s : Int) : hiH s * 4294967296 + loH s = s := by unfold hiH loH; omega

end Go.Proofs.YtnmdplefedffnaaDoor
