/- The document's own sum and difference of two numbers. -/
import Derived.Test.YtgjfgabagfhnoaaCalcRefSum
namespace Go.Proofs.Ytgjfgabagfhnoaa
open Go.RowKit
set_option linter.unusedVariables false
set_option maxRecDepth 10000

theorem rsum_two (w : World) (b cap : Nat) (x y : Int) (hb : b < w.heap.size) (h0 : w.cell? ⟨b, 0, none⟩ = some (.int .i64 x)) (h1 : w.cell? ⟨b, 1, none⟩ = some (.int .i64 y))
    (hx0 : -9223372036854775808 ≤ x) (hx1 : x ≤ 9223372036854775807) (hy0 : -9223372036854775808 ≤ y) (hy1 : y ≤ 9223372036854775807) :
    Calls Try.prog 38 #[.slice (some ⟨b, 0, none⟩) 2 cap] w fun e w' => e = .returned (.tuple #[.int .i64 (val (x + y)), .bool (okB (x + y))]) ∧ Below w.heap.size w w' := by
  have h := rsum_row b 0 2 cap [x, y] w hb rfl (by omega)
    (fun j hj => by
      simp only [List.length_cons, List.length_nil] at hj
      rcases (by omega : j = 0 ∨ j = 1) with rfl | rfl
      · exact h0
      · exact h1)
    (fun z hz => by
      simp only [List.mem_cons, List.not_mem_nil, or_false] at hz
      rcases hz with rfl | rfl <;> omega)
  have ht : total [x, y] = x + y := by simp [total]
  rw [ht] at h
  exact h

theorem rsum_three (w : World) (b cap : Nat) (x y z : Int) (hb : b < w.heap.size) (h0 : w.cell? ⟨b, 0, none⟩ = some (.int .i64 x)) (h1 : w.cell? ⟨b, 1, none⟩ = some (.int .i64 y)) (h2 : w.cell? ⟨b, 2, none⟩ = some (.int .i64 z))
    (hx0 : -9223372036854775808 ≤ x) (hx1 : x ≤ 9223372036854775807) (hy0 : -9223372036854775808 ≤ y) (hy1 : y ≤ 9223372036854775807) (hz0 : -9223372036854775808 ≤ z) (hz1 : z ≤ 9223372036854775807) :
    Calls Try.prog 38 #[.slice (some ⟨b, 0, none⟩) 3 cap] w fun e w' => e = .returned (.tuple #[.int .i64 (val (x + (y + z))), .bool (okB (x + (y + z)))]) ∧ Below w.heap.size w w' := by
  have h := rsum_row b 0 3 cap [x, y, z] w hb rfl (by omega)
    (fun j hj => by
      simp only [List.length_cons, List.length_nil] at hj
      rcases (by omega : j = 0 ∨ j = 1 ∨ j = 2) with rfl | rfl | rfl
      · exact h0
      · exact h1
      · exact h2)
    (fun u hu => by
      simp only [List.mem_cons, List.not_mem_nil, or_false] at hu
      rcases hu with rfl | rfl | rfl <;> omega)
  have ht : total [x, y, z] = x + (y + z) := by simp [total]
  rw [ht] at h
  exact h

theorem radd_any (a b : Int) (w : World) (ha0 : -9223372036854775808 ≤ a) (ha1 : a ≤ 9223372036854775807) (hb0 : -9223372036854775808 ≤ b) (hb1 : b ≤ 9223372036854775807) :
    Calls Try.prog 27 #[.int .i64 a, .int .i64 b] w fun e w' => e = .returned (.tuple #[.int .i64 (val (a + b)), .bool (okB (a + b))]) ∧ Below w.heap.size w w' := by
  go_enter Try.func27, Try.ntmps27
  go_wp2_with fail
  refine (rsum_two _ _ _ a b (by simp) (by simp) (by simp) ha0 ha1 hb0 hb1).mono ?_
  rintro e w1 ⟨rfl, hb1⟩
  go_wp2_with fail
  go_ret2
  exact ⟨rfl, ((Below.refl _ _).alloc (Nat.le_refl _) _).trans (hb1.mono (by simp))⟩

theorem rsub_any (a b : Int) (w : World) (ha0 : -9223372036854775808 ≤ a) (ha1 : a ≤ 9223372036854775807) (hb0 : -9223372036854775808 ≤ b) (hb1 : b ≤ 9223372036854775807) :
    Calls Try.prog 39 #[.int .i64 a, .int .i64 b] w fun e w' => e = .returned (.tuple #[.int .i64 (val (a - b)), .bool (okB (a - b))]) ∧ Below w.heap.size w w' := by
  by_cases h : b < -9223372036854775807
  · obtain rfl : b = -9223372036854775808 := by omega
    have HE := Lib.hid (show a + (9223372036854775807 + 1) = a - -9223372036854775808 by omega)
    go_enter Try.func39, Try.ntmps39
    go_wp2_with fail
    refine (rsum_three _ _ _ a 9223372036854775807 1 (by simp) (by simp) (by simp) (by simp) ha0 ha1 (by omega) (by omega) (by omega) (by omega)).mono ?_
    rintro e w1 ⟨rfl, hbel⟩
    rw [HE.out]
    go_wp2_with fail
    go_ret2
    exact ⟨rfl, ((Below.refl _ _).alloc (Nat.le_refl _) _).trans (hbel.mono (by simp))⟩
  · have HE := Lib.hid (show a + -b = a - b by omega)
    go_enter Try.func39, Try.ntmps39
    go_wp2_with fail
    refine (rsum_two _ _ _ a (-b) (by simp) (by simp) (by simp) ha0 ha1 (by omega) (by omega)).mono ?_
    rintro e w1 ⟨rfl, hbel⟩
    rw [HE.out]
    go_wp2_with fail
    go_ret2
    exact ⟨rfl, ((Below.refl _ _).alloc (Nat.le_refl _) _).trans (hbel.mono (by simp))⟩
end Go.Proofs.Ytgjfgabagfhnoaa
