/- The calc functions that do not loop, and the document's own: what each call answers. -/
import Derived.Test.YthoolmmnpnppkaaCalcMath
import Derived.Test.YthoolmmnpnppkaaChecked
import Derived.WalkKit
import Derived.WalkLawsBesides
import Derived.WalkSpells
import Derived.Lib.Hide
import Derived.Deep.QuietTactic
import Derived.BigQuiet
namespace Go.Proofs.Ythoolmmnpnppkaa
open Go.RowKit
set_option linter.unusedVariables false

theorem fits_any (x : Int) (w : World) (h0 : 0 ≤ x) (h1 : x ≤ 18446744073709551615) :
    Calls Try.prog 22 #[.int .u64 x] w fun e w' => e = .returned (.tuple #[.int .i64 (val x), .bool (okB x)]) ∧ w = w' := by
  by_cases h : 9223372036854775807 < x
  · go_enter Try.func22, Try.ntmps22
    go_wp2
    go_ret2
    exact ⟨two_out x (by omega), rfl⟩
  · go_enter Try.func22, Try.ntmps22
    go_wp2
    go_ret2
    exact ⟨two_in x (by omega), rfl⟩

theorem dist_any (a b : Int) (w : World) (ha0 : -9223372036854775808 ≤ a) (ha1 : a ≤ 9223372036854775807) (hb0 : -9223372036854775808 ≤ b) (hb1 : b ≤ 9223372036854775807) :
    Calls Try.prog 23 #[.int .i64 a, .int .i64 b] w fun e w' => e = .returned (.int .u64 (dist a b)) ∧ w = w' := by
  by_cases h : b < a
  · go_enter Try.func23, Try.ntmps23
    go_wp2
    go_ret
    exact ⟨ret_int (dist_lt a b (by omega)).symm, rfl⟩
  · go_enter Try.func23, Try.ntmps23
    go_wp2
    go_ret
    exact ⟨ret_int (by rw [dist_ge a b (by omega)]; simp only [u64w]; omega), rfl⟩

theorem rsize_any (a : Int) (w : World) (ha0 : -9223372036854775808 ≤ a) (ha1 : a ≤ 9223372036854775807) :
    Calls Try.prog 30 #[.int .i64 a] w fun e w' => e = .returned (.int .u64 (mag a)) ∧ w = w' := by
  by_cases h : a < 0
  · go_enter Try.func30, Try.ntmps30
    go_wp2
    go_ret
    exact ⟨ret_int (by rw [mag_neg a (by omega)]; omega), rfl⟩
  · go_enter Try.func30, Try.ntmps30
    go_wp2
    go_ret
    exact ⟨ret_int (by rw [mag_pos a (by omega)]), rfl⟩

theorem rdist_any (a b : Int) (w : World) (ha0 : -9223372036854775808 ≤ a) (ha1 : a ≤ 9223372036854775807) (hb0 : -9223372036854775808 ≤ b) (hb1 : b ≤ 9223372036854775807) :
    Calls Try.prog 24 #[.int .i64 a, .int .i64 b] w fun e w' => e = .returned (.int .u64 (dist a b)) ∧ w = w' := by
  by_cases h : b < a
  · go_enter Try.func24, Try.ntmps24
    go_wp2
    go_ret
    exact ⟨ret_int (dist_lt a b (by omega)).symm, rfl⟩
  · by_cases h1 : 0 ≤ a
    · go_enter Try.func24, Try.ntmps24
      go_wp2_with fail
      go_ret
      exact ⟨ret_int (by rw [dist_ge a b (by omega)]; try simp only [u64w]; try omega), rfl⟩
    · by_cases h2 : b < 0
      · go_enter Try.func24, Try.ntmps24
        go_wp2_with fail
        go_ret
        exact ⟨ret_int (by rw [dist_ge a b (by omega)]; try simp only [u64w]; try omega), rfl⟩
      · have hm := mag_neg a (by omega)
        have HM := Lib.hid hm; clear hm
        go_enter Try.func24, Try.ntmps24
        go_wp2_with (go_at_call 30; refine (rsize_any _ _ (by omega) (by omega)).mono ?_; rintro e w' ⟨rfl, rfl⟩)
        go_ret
        exact ⟨ret_int (by rw [dist_ge a b (by omega), HM.out]; try simp only [u64w]; try omega), rfl⟩

theorem clip_any (x a b : Int) (w : World) :
    Calls Try.prog 25 #[.int .i64 x, .int .i64 a, .int .i64 b] w fun e w' => e = .returned (.int .i64 (clip x a b)) ∧ w = w' := by
  by_cases h : x < a
  · go_enter Try.func25, Try.ntmps25
    go_wp2
    go_ret
    exact ⟨ret_int (clip_lo x a b (by omega)).symm, rfl⟩
  · by_cases h' : b < x
    · go_enter Try.func25, Try.ntmps25
      go_wp2
      go_ret
      exact ⟨ret_int (clip_hi x a b (by omega) (by omega)).symm, rfl⟩
    · go_enter Try.func25, Try.ntmps25
      go_wp2
      go_ret
      exact ⟨ret_int (clip_in x a b (by omega) (by omega)).symm, rfl⟩

theorem rclip_any (x a b : Int) (w : World) :
    Calls Try.prog 26 #[.int .i64 x, .int .i64 a, .int .i64 b] w fun e w' => e = .returned (.int .i64 (clip x a b)) ∧ w = w' := by
  by_cases h : x < a
  · go_enter Try.func26, Try.ntmps26
    go_wp2
    go_ret
    exact ⟨ret_int (clip_lo x a b (by omega)).symm, rfl⟩
  · by_cases h' : b < x
    · go_enter Try.func26, Try.ntmps26
      go_wp2
      go_ret
      exact ⟨ret_int (clip_hi x a b (by omega) (by omega)).symm, rfl⟩
    · go_enter Try.func26, Try.ntmps26
      go_wp2
      go_ret
      exact ⟨ret_int (clip_in x a b (by omega) (by omega)).symm, rfl⟩

theorem size_any (a : Int) (w : World) (ha0 : -9223372036854775808 ≤ a) (ha1 : a ≤ 9223372036854775807) :
    Calls Try.prog 28 #[.int .i64 a] w fun e w' => e = .returned (.int .u64 (mag a)) ∧ w = w' := by
  by_cases h : a < 0
  · have h1 : a ≤ 0 := by omega
    go_enter Try.func28, Try.ntmps28
    go_wp2_with (go_at_call 23; refine (dist_any _ _ _ (by omega) (by omega) (by omega) (by omega)).mono ?_; rintro e w' ⟨rfl, rfl⟩)
    go_ret
    exact ⟨ret_int (by rw [mag_neg a (by omega), dist_ge _ _ (by omega)]; omega), rfl⟩
  · by_cases h2 : a = 0
    · subst h2
      go_enter Try.func28, Try.ntmps28
      go_wp2_with (go_at_call 23; refine (dist_any _ _ _ (by omega) (by omega) (by omega) (by omega)).mono ?_; rintro e w' ⟨rfl, rfl⟩)
      go_ret
      exact ⟨rfl, rfl⟩
    · have h3 : 0 < a := by omega
      have h4 : ¬ a ≤ 0 := by omega
      clear h2
      go_enter Try.func28, Try.ntmps28
      go_wp2_with (go_at_call 23; refine (dist_any _ _ _ (by omega) (by omega) (by omega) (by omega)).mono ?_; rintro e w' ⟨rfl, rfl⟩)
      go_ret
      exact ⟨ret_int (by rw [mag_pos a (by omega), dist_ge _ _ (by omega)]; omega), rfl⟩

theorem signs_any (a : Int) (w : World) (ha0 : -9223372036854775808 ≤ a) (ha1 : a ≤ 9223372036854775807) :
    Calls Try.prog 32 #[.int .i64 a] w fun e w' => e = .returned (.int .u64 (sg a)) ∧ w = w' := by
  go_enter Try.func32, Try.ntmps32
  go_wp2
  go_ret
  exact ⟨ret_int (by rw [u64w]; unfold sg; split <;> omega), rfl⟩

theorem minus_any (x : Int) (w : World) (h0 : 0 ≤ x) (h1 : x ≤ 18446744073709551615) :
    Calls Try.prog 29 #[.int .u64 x] w fun e w' => e = .returned (.tuple #[.int .i64 (val (-x)), .bool (okB (-x))]) ∧ w = w' := by
  by_cases hx : x = 0
  · subst hx
    go_enter Try.func29, Try.ntmps29
    go_wp2_with fail
    go_ret2
    exact ⟨two_in 0 (by omega), rfl⟩
  · have hx0 : ¬ x = 0 := hx
    by_cases hy : x ≤ 9223372036854775808
    · have hv := Lib.hid (val_in (x - 1) (by omega))
      have ho := okB_in (x - 1) (by omega)
      go_enter Try.func29, Try.ntmps29
      go_wp2_with (go_at_call 22; refine (fits_any _ _ (by omega) (by omega)).mono ?_; rintro e w' ⟨rfl, rfl⟩; rw [hv.out])
      go_ret2
      exact ⟨(by show Ending.returned (.tuple #[.int .i64 (-(x - 1) - 1), .bool true]) = _; rw [show -(x - 1) - 1 = -x from by omega]; exact two_in (-x) (by omega)), rfl⟩
    · have ho := okB_out (x - 1) (by omega)
      go_enter Try.func29, Try.ntmps29
      go_wp2_with (go_at_call 22; refine (fits_any _ _ (by omega) (by omega)).mono ?_; rintro e w' ⟨rfl, rfl⟩)
      go_ret2
      exact ⟨two_out (-x) (by omega), rfl⟩
end Go.Proofs.Ythoolmmnpnppkaa
