/- Keys as plain numbers: which there are, where each stands, how two are held against each other. -/
import Derived.Test.YtnmdplefedffnaaDoorRows
import Derived.RowKit
namespace Go.Proofs.YtnmdplefedffnaaDoor
open Go.RowKit
set_option linter.unusedVariables false

/-- A key: its kind, its article, its warehouse. -/
abbrev K := Int × Int × Int
/-- Its parts are bytes. -/
def Kok (k : K) : Prop := (0 ≤ k.1 ∧ k.1 ≤ 255) ∧ (0 ≤ k.2.1 ∧ k.2.1 ≤ 255) ∧ (0 ≤ k.2.2 ∧ k.2.2 ≤ 255)
/-- Its cells. -/
def kc (k : K) : List Value := [.int .u8 k.1, .int .u8 k.2.1, .int .u8 k.2.2]
def sizedB (s w : Int) : Bool := decide (1 ≤ s) && decide (s ≤ 4) && decide (1 ≤ w) && decide (w ≤ 4)
def widthI (a w : Int) : Int := if a = 1 ∨ a = 2 then w else if a = 3 ∨ a = 4 then 1 else 0
def housedB (a : Int) : Bool := a == 1 || a == 2
def belowI (s w : Int) : Nat → Int
  | 0 => 0
  | l + 1 => belowI s w l + s * widthI l w
def goodB (s w a b c : Int) : Bool := sizedB s w && decide (b < s) && decide (c < widthI a w)
theorem width_bounds (a w : Int) (h0 : 0 ≤ w) (h4 : w ≤ 4) : 0 ≤ widthI a w ∧ widthI a w ≤ 4 := by
  unfold widthI
  repeat' split
  all_goals omega
theorem mul_bounds (s x : Int) (h0 : 0 ≤ s) (h4 : s ≤ 4) (h1 : 0 ≤ x) (h2 : x ≤ 4) : 0 ≤ s * x ∧ s * x ≤ 16 :=
  ⟨Int.mul_nonneg h0 h1, Int.le_trans (Int.mul_le_mul h4 h2 h1 (by omega)) (by omega)⟩
theorem below_bounds (s w : Int) (h0 : 0 ≤ s) (h4 : s ≤ 4) (h1 : 0 ≤ w) (h2 : w ≤ 4) : ∀ l : Nat, 0 ≤ belowI s w l ∧ belowI s w l ≤ 16 * l
  | 0 => by simp [belowI]
  | l + 1 => by
    have h := below_bounds s w h0 h4 h1 h2 l
    have hw := width_bounds l w h1 h2
    have hm := mul_bounds s _ h0 h4 hw.1 hw.2
    simp only [belowI]
    omega
/-- Where a key stands. -/
def placeI (s w : Int) (k : K) : Int := belowI s w k.1.toNat + k.2.1 * widthI k.1 w + k.2.2
/-- Two numbers held against each other. -/
def cmp8 (x y : Int) : Int := if x < y then -1 else if y < x then 1 else 0
/-- The first of three that is not nought. -/
def orI (x y z : Int) : Int := if x ≠ 0 then x else if y ≠ 0 then y else z
def cmpI (k l : K) : Int := orI (cmp8 k.1 l.1) (cmp8 k.2.1 l.2.1) (cmp8 k.2.2 l.2.2)
def lessB (k l : K) : Bool := if k.1 ≠ l.1 then decide (k.1 < l.1) else if k.2.1 ≠ l.2.1 then decide (k.2.1 < l.2.1) else decide (k.2.2 < l.2.2)
theorem less_iff (k l : K) : lessB k l = true ↔ k.1 < l.1 ∨ k.1 = l.1 ∧ (k.2.1 < l.2.1 ∨ k.2.1 = l.2.1 ∧ k.2.2 < l.2.2) := by
  unfold lessB
  by_cases h1 : k.1 = l.1
  · by_cases h2 : k.2.1 = l.2.1
    · simp [h1, h2]
    · simp [h1, h2]
  · simp [h1]
theorem cmp8_cases (x y : Int) : x < y ∧ cmp8 x y = -1 ∨ y < x ∧ cmp8 x y = 1 ∨ x = y ∧ cmp8 x y = 0 := by
  unfold cmp8
  by_cases h1 : x < y
  · simp [h1]
  · by_cases h2 : y < x
    · simp [h1, h2]
    · simp [h1, h2]; omega
theorem cmp_values (k l : K) : cmpI k l = if lessB k l then -1 else if lessB l k then 1 else 0 := by
  have h1 := less_iff k l
  have h2 := less_iff l k
  unfold cmpI
  rcases cmp8_cases k.1 l.1 with ⟨g1, e1⟩ | ⟨g1, e1⟩ | ⟨g1, e1⟩
  · rw [if_pos (h1.2 (.inl g1)), e1]; rfl
  · rw [if_neg (fun h => by have := h1.1 h; omega), if_pos (h2.2 (.inl g1)), e1]; rfl
  · rcases cmp8_cases k.2.1 l.2.1 with ⟨g2, e2⟩ | ⟨g2, e2⟩ | ⟨g2, e2⟩
    · rw [if_pos (h1.2 (.inr ⟨g1, .inl g2⟩)), e1, e2]; rfl
    · rw [if_neg (fun h => by have := h1.1 h; omega), if_pos (h2.2 (.inr ⟨g1.symm, .inl g2⟩)), e1, e2]; rfl
    · rcases cmp8_cases k.2.2 l.2.2 with ⟨g3, e3⟩ | ⟨g3, e3⟩ | ⟨g3, e3⟩
      · rw [if_pos (h1.2 (.inr ⟨g1, .inr ⟨g2, g3⟩⟩)), e1, e2, e3]; rfl
      · rw [if_neg (fun h => by have := h1.1 h; omega), if_pos (h2.2 (.inr ⟨g1.symm, .inr ⟨g2.symm, g3⟩⟩)), e1, e2, e3]; rfl
      · rw [if_neg (fun h => by have := h1.1 h; omega), if_neg (fun h => by have := h2.1 h; omega), e1, e2, e3]; rfl
theorem less_irrefl (k : K) : lessB k k = false := by
  cases h : lessB k k with
  | false => rfl
  | true => have := (less_iff k k).1 h; omega
theorem less_trans (a b c : K) (h1 : lessB a b = true) (h2 : lessB b c = true) : lessB a c = true := by
  rw [less_iff] at *
  omega
theorem less_asymm (a b : K) (h1 : lessB a b = true) : lessB b a = false := by
  cases h : lessB b a with
  | false => rfl
  | true => rw [less_iff] at *; omega
theorem less_total (a b : K) (h1 : lessB a b = false) (h2 : lessB b a = false) : a = b := by
  have g1 : ¬ lessB a b = true := by simp [h1]
  have g2 : ¬ lessB b a = true := by simp [h2]
  rw [less_iff] at g1 g2
  exact Prod.ext (by omega) (Prod.ext (by omega) (by omega))
theorem less_ntrans (a b c : K) (h1 : lessB a b = false) (h2 : lessB b c = false) : lessB a c = false := by
  have g1 : ¬ lessB a b = true := by simp [h1]
  have g2 : ¬ lessB b c = true := by simp [h2]
  cases h : lessB a c with
  | false => rfl
  | true => rw [less_iff] at *; omega
theorem cmp_less (k l : K) : (cmpI k l < 0) ↔ lessB k l = true := by
  rw [cmp_values]
  repeat' split
  all_goals simp_all
theorem cmp_neg (k l : K) : cmpI l k = - cmpI k l := by
  rw [cmp_values, cmp_values k l]
  by_cases h1 : lessB k l = true
  · simp [h1, less_asymm k l h1]
  · by_cases h2 : lessB l k = true
    · simp [h1, h2]
    · simp [h1, h2]
theorem cmp_zero (k l : K) : cmpI k l = 0 ↔ k = l := by
  rw [cmp_values]
  constructor
  · intro h
    by_cases h1 : lessB k l = true
    · simp [h1] at h
    · by_cases h2 : lessB l k = true
      · simp [h1, h2] at h
      · exact less_total k l (by simpa using h1) (by simpa using h2)
  · rintro rfl; simp [less_irrefl]

/-- The kinds' names. -/
def wordL (a : Int) : List UInt8 := if a = 1 then [115, 116, 111, 99, 107] else if a = 2 then [104, 101, 108, 100] else if a = 3 then [111, 117, 116] else if a = 4 then [111, 119, 101, 100] else []
end Go.Proofs.YtnmdplefedffnaaDoor
