/- The calc functions on two numbers, and the document's own opposite: what each call answers. -/
import Derived.Test.YthoolmmnpnppkaaCalcSmall
namespace Go.Proofs.Ythoolmmnpnppkaa
open Go.RowKit
set_option linter.unusedVariables false

theorem add_any (a b : Int) (w : World) (ha0 : -9223372036854775808 ≤ a) (ha1 : a ≤ 9223372036854775807) (hb0 : -9223372036854775808 ≤ b) (hb1 : b ≤ 9223372036854775807) :
    Calls Try.prog 10 #[.int .i64 a, .int .i64 b] w fun e w' => e = .returned (.tuple #[.int .i64 (val (a + b)), .bool (okB (a + b))]) ∧ w = w' := by
  by_cases hp : 0 < b
  · by_cases hx : 9223372036854775807 - b < a
    · go_enter Try.func10, Try.ntmps10
      go_wp2
      go_ret2
      exact ⟨two_out (a + b) (by omega), rfl⟩
    · have hn : ¬ b < 0 := by omega
      go_enter Try.func10, Try.ntmps10
      go_wp2
      go_ret2
      exact ⟨two_in (a + b) (by omega), rfl⟩
  · by_cases hn : b < 0
    · by_cases hx : a < -9223372036854775808 - b
      · go_enter Try.func10, Try.ntmps10
        go_wp2
        go_ret2
        exact ⟨two_out (a + b) (by omega), rfl⟩
      · go_enter Try.func10, Try.ntmps10
        go_wp2
        go_ret2
        exact ⟨two_in (a + b) (by omega), rfl⟩
    · go_enter Try.func10, Try.ntmps10
      go_wp2
      go_ret2
      exact ⟨two_in (a + b) (by omega), rfl⟩

theorem sub_any (a b : Int) (w : World) (ha0 : -9223372036854775808 ≤ a) (ha1 : a ≤ 9223372036854775807) (hb0 : -9223372036854775808 ≤ b) (hb1 : b ≤ 9223372036854775807) :
    Calls Try.prog 13 #[.int .i64 a, .int .i64 b] w fun e w' => e = .returned (.tuple #[.int .i64 (val (a - b)), .bool (okB (a - b))]) ∧ w = w' := by
  by_cases hp : 0 < b
  · by_cases hx : a < -9223372036854775808 + b
    · go_enter Try.func13, Try.ntmps13
      go_wp2
      go_ret2
      exact ⟨two_out (a - b) (by omega), rfl⟩
    · have hn : ¬ b < 0 := by omega
      go_enter Try.func13, Try.ntmps13
      go_wp2
      go_ret2
      exact ⟨two_in (a - b) (by omega), rfl⟩
  · by_cases hn : b < 0
    · by_cases hx : 9223372036854775807 + b < a
      · go_enter Try.func13, Try.ntmps13
        go_wp2
        go_ret2
        exact ⟨two_out (a - b) (by omega), rfl⟩
      · go_enter Try.func13, Try.ntmps13
        go_wp2
        go_ret2
        exact ⟨two_in (a - b) (by omega), rfl⟩
    · go_enter Try.func13, Try.ntmps13
      go_wp2
      go_ret2
      exact ⟨two_in (a - b) (by omega), rfl⟩

theorem neg_any (a : Int) (w : World) (ha0 : -9223372036854775808 ≤ a) (ha1 : a ≤ 9223372036854775807) :
    Calls Try.prog 15 #[.int .i64 a] w fun e w' => e = .returned (.tuple #[.int .i64 (val (-a)), .bool (okB (-a))]) ∧ w = w' := by
  go_enter Try.func15, Try.ntmps15
  go_wp2_with (go_at_call 13; refine (sub_any _ _ _ (by omega) (by omega) (by omega) (by omega)).mono ?_; rintro e w' ⟨rfl, rfl⟩)
  go_ret2
  exact ⟨rfl, rfl⟩

theorem rneg_any (a : Int) (w : World) (ha0 : -9223372036854775808 ≤ a) (ha1 : a ≤ 9223372036854775807) :
    Calls Try.prog 16 #[.int .i64 a] w fun e w' => e = .returned (.tuple #[.int .i64 (val (-a)), .bool (okB (-a))]) ∧ w = w' := by
  by_cases h : a < -9223372036854775807
  · go_enter Try.func16, Try.ntmps16
    go_wp2
    go_ret2
    exact ⟨two_out (-a) (by omega), rfl⟩
  · go_enter Try.func16, Try.ntmps16
    go_wp2
    go_ret2
    exact ⟨two_in (-a) (by omega), rfl⟩

/-- Two answers that are the same are told to be. -/
theorem same_yes (a : Int) (ok : Bool) (w : World) :
    Calls Try.prog 12 #[.int .i64 a, .bool ok, .int .i64 a, .bool ok] w fun e w' => e = .returned (.bool true) ∧ w = w' := by
  cases ok
  all_goals
    go_enter Try.func12, Try.ntmps12
    go_wp2
    go_ret
    exact ⟨rfl, rfl⟩
end Go.Proofs.Ythoolmmnpnppkaa
