import Derived.Test.YtmdldbchdnkfcaaRows
import Derived.RowKit
namespace Go.Proofs.Ytmdldbchdnkfcaa
open Go.RowKit
set_option linter.unusedVariables false
set_option maxRecDepth 10000
abbrev K := Int × Int × Int
def Kok (k : K) : Prop := (0 ≤ k.1 ∧ k.1 ≤ 255) ∧ (0 ≤ k.2.1 ∧ k.2.1 ≤ 255) ∧ (0 ≤ k.2.2 ∧ k.2.2 ≤ 255)
def kc (k : K) : List Value := [.int .u8 k.1, .int .u8 k.2.1, .int .u8 k.2.2]
def cmp8 (x y : Int) : Int := if x < y then -1 else if y < x then 1 else 0
def orI (x y z : Int) : Int := if x ≠ 0 then x else if y ≠ 0 then y else z
def cmpI (k l : K) : Int := orI (cmp8 k.1 l.1) (cmp8 k.2.1 l.2.1) (cmp8 k.2.2 l.2.2)
def lessB (k l : K) : Bool := if k.1 ≠ l.1 then decide (k.1 < l.1) else if k.2.1 ≠ l.2.1 then decide (k.2.1 < l.2.1) else decide (k.2.2 < l.2.2)
theorem less_iff (k l : K) : lessB k l = true ↔ k.1 < l.1 ∨ k.1 = l.1 ∧ (k.2.1 < l.2.1 ∨ k.2.1 = l.2.1 ∧ k.2.2 < l.2.2) := by
 unfold lessB
 by_cases h1 : k.1 = l.1
 · by_cases h2 : k.2.1 = l.2.1
   · simp [h1, h2]
   · simp [h1, h2]
 · simp [h1]
theorem cmp8_cases (x y : Int) : x < y ∧ cmp8 x y = -1 ∨ y < x ∧ cmp8 x y = 1 ∨ x = y ∧ cmp8 x y = 0 := by
 unfold cmp8
 by_cases h1 : x < y
 · simp [h1]
 · by_cases h2 : y < x
   · simp [h1, h2]
   · simp [h1, h2]; omega
theorem cmp_values (k l : K) : cmpI k l = if lessB k l then -1 else if lessB l k then 1 else 0 := by
 have h1 := less_iff k l
 have h2 := less_iff l k
 unfold cmpI
 rcases cmp8_cases k.1 l.1 with ⟨g1, e1⟩ | ⟨g1, e1⟩ | ⟨g1, e1⟩
 · rw [if_pos (h1.2 (.inl g1)), e1]; rfl
 · rw [if_neg (fun h => by have := h1.1 h; omega), if_pos (h2.2 (.inl g1)), e1]; rfl
 · rcases cmp8_cases k.2.1 l.2.1 with ⟨g2, e2⟩ | ⟨g2, e2⟩ | ⟨g2, e2⟩
   · rw [if_pos (h1.2 (.inr ⟨g1, .inl g2⟩)), e1, e2]; rfl
   · rw [if_neg (fun h => by have := h1.1 h; omega), if_pos (h2.2 (.inr ⟨g1.symm, .inl g2⟩)), e1, e2]; rfl
   · rcases cmp8_cases k.2.2 l.2.2 with ⟨g3, e3⟩ | ⟨g3, e3⟩ | ⟨g3, e3⟩
     · rw [if_pos (h1.2 (.inr ⟨g1, .inr ⟨g2, g3⟩⟩)), e1, e2, e3]; rfl
     · rw [if_neg (fun h => by have := h1.1 h; omega), if_pos (h2.2 (.inr ⟨g1.symm, .inr ⟨g2.symm, g3⟩⟩)), e1, e2, e3]; rfl
     · rw [if_neg (fun h => by have := h1.1 h; omega), if_neg (fun h => by have := h2.1 h; omega), e1, e2, e3]; rfl
theorem less_irrefl (k : K) : lessB k k = false := by
 cases h : lessB k k with
 | false => rfl
 | true => have := (less_iff k k).1 h; omega
theorem less_trans (a b c : K) (h1 : lessB a b = true) (h2 : lessB b c = true) : lessB a c = true := by
 rw [less_iff] at *
 omega
theorem less_asymm (a b : K) (h1 : lessB a b = true) : lessB b a = false := by
 cases h : lessB b a with
 | false => rfl
 | true => rw [less_iff] at *; omega
theorem less_total (a b : K) (h1 : lessB a b = false) (h2 : lessB b a = false) : a = b := by
 have g1 : ¬ lessB a b = true := by simp [h1]
 have g2 : ¬ lessB b a = true := by simp [h2]
 rw [less_iff] at g1 g2
 exact Prod.ext (by omega) (Prod.ext (by omega) (by omega))
theorem less_ntrans (a b c : K) (h1 : lessB a b = false) (h2 : lessB b c = false) : lessB a c = false := by
 have g1 : ¬ lessB a b = true := by simp [h1]
 have g2 : ¬ lessB b c = true := by simp [h2]
 cases h : lessB a c with
 | false => rfl
 | true => rw [less_iff] at *; omega
theorem cmp_less (k l : K) : (cmpI k l < 0) ↔ lessB k l = true := by
 rw [cmp_values]
 repeat' split
 all_goals simp_all
end Go.Proofs.Ytmdldbchdnkfcaa
