/- The calc functions that do not loop, and the document's own: what each call answers. -/
import Derived.Test.YtgjfgabagfhnoaaCalcMath
import Derived.Test.YtgjfgabagfhnoaaChecked
import Derived.WalkKit
import Derived.WalkLawsBesides
import Derived.WalkSpells
import Derived.Lib.Hide
import Derived.Deep.QuietTactic
import Derived.BigQuiet
namespace Go.Proofs.Ytgjfgabagfhnoaa
open Go.RowKit
set_option linter.unusedVariables false
set_option maxRecDepth 10000

theorem rsize_any (a : Int) (w : World) (ha0 : -9223372036854775808 ≤ a) (ha1 : a ≤ 9223372036854775807) :
    Calls Try.prog 37 #[.int .i64 a] w fun e w' => e = .returned (.int .u64 (mag a)) ∧ w = w' := by
  by_cases h : a < 0
  · go_enter Try.func37, Try.ntmps37
    go_wp2
    go_ret
    exact ⟨ret_int (by rw [mag_neg a (by omega)]; omega), rfl⟩
  · go_enter Try.func37, Try.ntmps37
    go_wp2
    go_ret
    exact ⟨ret_int (by rw [mag_pos a (by omega)]), rfl⟩

theorem rdist_any (a b : Int) (w : World) (ha0 : -9223372036854775808 ≤ a) (ha1 : a ≤ 9223372036854775807) (hb0 : -9223372036854775808 ≤ b) (hb1 : b ≤ 9223372036854775807) :
    Calls Try.prog 25 #[.int .i64 a, .int .i64 b] w fun e w' => e = .returned (.int .u64 (dist a b)) ∧ w = w' := by
  by_cases h : b < a
  · go_enter Try.func25, Try.ntmps25
    go_wp2
    go_ret
    exact ⟨ret_int (dist_lt a b (by omega)).symm, rfl⟩
  · by_cases h1 : 0 ≤ a
    · go_enter Try.func25, Try.ntmps25
      go_wp2_with fail
      go_ret
      exact ⟨ret_int (by rw [dist_ge a b (by omega)]; try simp only [u64w]; try omega), rfl⟩
    · by_cases h2 : b < 0
      · go_enter Try.func25, Try.ntmps25
        go_wp2_with fail
        go_ret
        exact ⟨ret_int (by rw [dist_ge a b (by omega)]; try simp only [u64w]; try omega), rfl⟩
      · have hm := mag_neg a (by omega)
        have HM := Lib.hid hm; clear hm
        go_enter Try.func25, Try.ntmps25
        go_wp2_with (go_at_call 37; refine (rsize_any _ _ (by omega) (by omega)).mono ?_; rintro e w' ⟨rfl, rfl⟩)
        go_ret
        exact ⟨ret_int (by rw [dist_ge a b (by omega), HM.out]; try simp only [u64w]; try omega), rfl⟩

end Go.Proofs.Ytgjfgabagfhnoaa
