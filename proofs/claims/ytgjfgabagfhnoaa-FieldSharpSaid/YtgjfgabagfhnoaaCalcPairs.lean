/- The calc functions on two numbers, and the document's own opposite: what each call answers. -/
import Derived.Test.YtgjfgabagfhnoaaCalcSmall
namespace Go.Proofs.Ytgjfgabagfhnoaa
open Go.RowKit
set_option linter.unusedVariables false
set_option maxRecDepth 10000

theorem add_any (a b : Int) (w : World) (ha0 : -9223372036854775808 ≤ a) (ha1 : a ≤ 9223372036854775807) (hb0 : -9223372036854775808 ≤ b) (hb1 : b ≤ 9223372036854775807) :
    Calls Try.prog 32 #[.int .i64 a, .int .i64 b] w fun e w' => e = .returned (.tuple #[.int .i64 (val (a + b)), .bool (okB (a + b))]) ∧ w = w' := by
  by_cases hp : 0 < b
  · by_cases hx : 9223372036854775807 - b < a
    · go_enter Try.func32, Try.ntmps32
      go_wp2
      go_ret2
      exact ⟨two_out (a + b) (by omega), rfl⟩
    · have hn : ¬ b < 0 := by omega
      go_enter Try.func32, Try.ntmps32
      go_wp2
      go_ret2
      exact ⟨two_in (a + b) (by omega), rfl⟩
  · by_cases hn : b < 0
    · by_cases hx : a < -9223372036854775808 - b
      · go_enter Try.func32, Try.ntmps32
        go_wp2
        go_ret2
        exact ⟨two_out (a + b) (by omega), rfl⟩
      · go_enter Try.func32, Try.ntmps32
        go_wp2
        go_ret2
        exact ⟨two_in (a + b) (by omega), rfl⟩
    · go_enter Try.func32, Try.ntmps32
      go_wp2
      go_ret2
      exact ⟨two_in (a + b) (by omega), rfl⟩

theorem sub_any (a b : Int) (w : World) (ha0 : -9223372036854775808 ≤ a) (ha1 : a ≤ 9223372036854775807) (hb0 : -9223372036854775808 ≤ b) (hb1 : b ≤ 9223372036854775807) :
    Calls Try.prog 41 #[.int .i64 a, .int .i64 b] w fun e w' => e = .returned (.tuple #[.int .i64 (val (a - b)), .bool (okB (a - b))]) ∧ w = w' := by
  by_cases hp : 0 < b
  · by_cases hx : a < -9223372036854775808 + b
    · go_enter Try.func41, Try.ntmps41
      go_wp2
      go_ret2
      exact ⟨two_out (a - b) (by omega), rfl⟩
    · have hn : ¬ b < 0 := by omega
      go_enter Try.func41, Try.ntmps41
      go_wp2
      go_ret2
      exact ⟨two_in (a - b) (by omega), rfl⟩
  · by_cases hn : b < 0
    · by_cases hx : 9223372036854775807 + b < a
      · go_enter Try.func41, Try.ntmps41
        go_wp2
        go_ret2
        exact ⟨two_out (a - b) (by omega), rfl⟩
      · go_enter Try.func41, Try.ntmps41
        go_wp2
        go_ret2
        exact ⟨two_in (a - b) (by omega), rfl⟩
    · go_enter Try.func41, Try.ntmps41
      go_wp2
      go_ret2
      exact ⟨two_in (a - b) (by omega), rfl⟩

end Go.Proofs.Ytgjfgabagfhnoaa
