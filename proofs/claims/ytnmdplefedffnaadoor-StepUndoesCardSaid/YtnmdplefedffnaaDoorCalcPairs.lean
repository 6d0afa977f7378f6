/- The calc functions on two numbers, and the document's own opposite: what each call answers. -/
import Derived.Test.YtnmdplefedffnaaDoorCalcSmall
namespace Go.Proofs.YtnmdplefedffnaaDoor
open Go.RowKit
set_option linter.unusedVariables false

theorem sub_any (a b : Int) (w : World) (ha0 : -9223372036854775808 ≤ a) (ha1 : a ≤ 9223372036854775807) (hb0 : -9223372036854775808 ≤ b) (hb1 : b ≤ 9223372036854775807) :
    Calls Tryd.prog 50 #[.int .i64 a, .int .i64 b] w fun e w' => e = .returned (.tuple #[.int .i64 (val (a - b)), .bool (okB (a - b))]) ∧ w = w' := by
  by_cases hp : 0 < b
  · by_cases hx : a < -9223372036854775808 + b
    · go_enter Tryd.func50, Tryd.ntmps50
      go_wp2
      go_ret2
      exact ⟨two_out (a - b) (by omega), rfl⟩
    · have hn : ¬ b < 0 := by omega
      go_enter Tryd.func50, Tryd.ntmps50
      go_wp2
      go_ret2
      exact ⟨two_in (a - b) (by omega), rfl⟩
  · by_cases hn : b < 0
    · by_cases hx : 9223372036854775807 + b < a
      · go_enter Tryd.func50, Tryd.ntmps50
        go_wp2
        go_ret2
        exact ⟨two_out (a - b) (by omega), rfl⟩
      · go_enter Tryd.func50, Tryd.ntmps50
        go_wp2
        go_ret2
        exact ⟨two_in (a - b) (by omega), rfl⟩
    · go_enter Tryd.func50, Tryd.ntmps50
      go_wp2
      go_ret2
      exact ⟨two_in (a - b) (by omega), rfl⟩

theorem neg_any (a : Int) (w : World) (ha0 : -9223372036854775808 ≤ a) (ha1 : a ≤ 9223372036854775807) :
    Calls Tryd.prog 41 #[.int .i64 a] w fun e w' => e = .returned (.tuple #[.int .i64 (val (-a)), .bool (okB (-a))]) ∧ w = w' := by
  go_enter Tryd.func41, Tryd.ntmps41
  go_wp2_with (go_at_call 50; refine (sub_any _ _ _ (by omega) (by omega) (by omega) (by omega)).mono ?_; rintro e w' ⟨rfl, rfl⟩)
  go_ret2
  exact ⟨rfl, rfl⟩

end Go.Proofs.YtnmdplefedffnaaDoor
