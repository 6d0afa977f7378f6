/- calc.Sum: what it answers of any row of numbers. -/
import Derived.Test.YtgjfgabagfhnoaaCalcPairs
import Derived.LoopTactic
import Derived.Laws.Externs
import Derived.Outline
namespace Go.Proofs.Ytgjfgabagfhnoaa
open Go.RowKit
set_option linter.unusedVariables false
set_option maxRecDepth 10000

/-- The numbers' sum, in whole numbers. -/
def total : List Int → Int
  | [] => 0
  | x :: r => x + total r
theorem total_append (a b : List Int) : total (a ++ b) = total a + total b := by
  induction a with
  | nil => simp [total]
  | cons x r ih => simp [total, ih]; omega
theorem total_take (xs : List Int) (k : Nat) (h : k < xs.length) : total (xs.take (k + 1)) = total (xs.take k) + xs.getD k 0 := by
  rw [List.take_add_one, total_append]
  simp [List.getD, List.getElem?_eq_getElem h, total]
theorem total_bd (xs : List Int) (h : ∀ x ∈ xs, -9223372036854775808 ≤ x ∧ x ≤ 9223372036854775807) : -9223372036854775808 * (xs.length : Int) ≤ total xs ∧ total xs ≤ 9223372036854775807 * (xs.length : Int) := by
  induction xs with
  | nil => simp [total]
  | cons x r ih =>
    have h1 := h x (by simp)
    have h2 := ih (fun y hy => h y (by simp [hy]))
    simp [total]; omega
/-- The lower and the upper 64 bits of a number in 128 bits. -/
def loOf (s : Int) : Int := s % 18446744073709551616
def hiOf (s : Int) : Int := s / 18446744073709551616 % 18446744073709551616
/-- What is carried over. -/
def car (s x : Int) : Int := (loOf s + loOf x + 0) / 18446744073709551616
def carTwo (s x : Int) : Int := (hiOf s + sg x + car s x) / 18446744073709551616
theorem loOf_bd (s : Int) : 0 ≤ loOf s ∧ loOf s ≤ 18446744073709551615 := by unfold loOf; omega
theorem hiOf_bd (s : Int) : 0 ≤ hiOf s ∧ hiOf s ≤ 18446744073709551615 := by unfold hiOf; omega
theorem sg_bd (x : Int) : 0 ≤ sg x ∧ sg x ≤ 18446744073709551615 := by unfold sg; split <;> omega
theorem lo_step (s x : Int) : (loOf s + loOf x + 0) % 18446744073709551616 = loOf (s + x) := by unfold loOf; omega
theorem hi_step (s x : Int) (h : -9223372036854775808 ≤ x ∧ x ≤ 9223372036854775807) : (hiOf s + sg x + car s x) % 18446744073709551616 = hiOf (s + x) := by
  unfold hiOf sg car loOf; split <;> omega
theorem car_bd (s x : Int) : 0 ≤ car s x ∧ car s x ≤ 1 := by unfold car loOf; omega
theorem fits_iff (s : Int) (h : -85070591730234615865843651857942052864 ≤ s ∧ s ≤ 85070591730234615865843651857942052864) :
    (hiOf s = sg (wrap64 (loOf s)) ↔ (-9223372036854775808 ≤ s ∧ s ≤ 9223372036854775807)) := by
  unfold hiOf sg wrap64 loOf; split <;> constructor <;> omega
theorem low_is (s : Int) (h : -9223372036854775808 ≤ s ∧ s ≤ 9223372036854775807) : wrap64 (loOf s) = s := by
  unfold wrap64 loOf; omega

end Go.Proofs.Ytgjfgabagfhnoaa
