/- works: the chapter's examples hold, and nothing that was there is written. -/
import Derived.Test.YthoolmmnpnppkaaCalcSum
namespace Go.Proofs.Ythoolmmnpnppkaa
open Go.RowKit
set_option linter.unusedVariables false

theorem example_sum (w : World) (b cap : Nat) (h0 : w.cell? ⟨b, 0, none⟩ = some (.int .i64 4611686018427387904)) (h1 : w.cell? ⟨b, 1, none⟩ = some (.int .i64 4611686018427387904)) (h2 : w.cell? ⟨b, 2, none⟩ = some (.int .i64 (-1))) :
    Calls Try.prog 20 #[.slice (some ⟨b, 0, none⟩) 3 cap] w fun e w' => e = .returned (.tuple #[.int .i64 9223372036854775807, .bool true]) ∧ w = w' := by
  have h := sum_row b 0 3 cap [4611686018427387904, 4611686018427387904, -1] w rfl (by omega)
    (fun j hj => by
      simp only [List.length_cons, List.length_nil] at hj
      rcases (by omega : j = 0 ∨ j = 1 ∨ j = 2) with rfl | rfl | rfl
      · exact h0
      · exact h1
      · exact h2)
    (fun x hx => by
      simp only [List.mem_cons, List.not_mem_nil, or_false] at hx
      rcases hx with rfl | rfl | rfl <;> omega)
  have ht : total [4611686018427387904, 4611686018427387904, -1] = 9223372036854775807 := by simp [total]
  rw [ht, val_in _ (by omega), okB_in _ (by omega)] at h
  exact h

theorem example_dist (w : World) : Calls Try.prog 23 #[.int .i64 (-9223372036854775808), .int .i64 9223372036854775807] w fun e w' => e = .returned (.int .u64 18446744073709551615) ∧ w = w' := by
  have h := dist_any (-9223372036854775808) 9223372036854775807 w (by omega) (by omega) (by omega) (by omega)
  rw [dist_ge _ _ (by omega)] at h
  exact h

theorem example_clip (w : World) : Calls Try.prog 25 #[.int .i64 9, .int .i64 1, .int .i64 5] w fun e w' => e = .returned (.int .i64 5) ∧ w = w' := by
  have h := clip_any 9 1 5 w
  rw [clip_hi _ _ _ (by omega) (by omega)] at h
  exact h

theorem works_any (w : World) : Calls Try.prog 17 #[] w fun e w' => e = .returned (.bool true) ∧ Below w.heap.size w w' := by
  go_enter Try.func17, Try.ntmps17
  go_wp2_with fail
  refine (example_sum _ _ _ (by simp) (by simp) (by simp)).mono ?_
  rintro e w' ⟨rfl, rfl⟩
  go_wp2_with fail
  refine (example_dist _).mono ?_
  rintro e w' ⟨rfl, rfl⟩
  go_wp2_with fail
  refine (example_clip _).mono ?_
  rintro e w' ⟨rfl, rfl⟩
  go_wp2_with fail
  go_ret
  exact ⟨rfl, (Below.refl _ _).alloc (Nat.le_refl _) _⟩
end Go.Proofs.Ythoolmmnpnppkaa
