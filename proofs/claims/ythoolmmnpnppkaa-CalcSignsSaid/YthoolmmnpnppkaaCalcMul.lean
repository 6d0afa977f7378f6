/- math/bits.Mul64 and calc.Mul: what they answer. -/
import Derived.Test.YthoolmmnpnppkaaCalcPairs
import Derived.Shelf.Bits.Mul64
namespace Go.Proofs.Ythoolmmnpnppkaa
open Go.RowKit Go.Lib
set_option linter.unusedVariables false

/-- The shelf's contract of math/bits.Mul64, at this translation's numbers. -/
def wide_ren : Go.Shelf.Ren := ⟨fun | 264 => 27 | n => n, fun | 53 => 33 | 46 => 41 | n => n, fun | n => n⟩
theorem wide_lays : Go.Proofs.Lays.n264 Try.prog wide_ren := {
  mixed := by kernel_rfl
  f264 := Try.func27.trans (congrArg some (by kernel_rfl))
  t46 := Try.underlying41
  a46 := Try.isAgg41
  z46 := Try.sizeOf41
  v46 := Try.zeroValue41
  t53 := Try.underlying33
  a53 := Try.isAgg33
  z53 := Try.sizeOf33
  v53 := Try.zeroValue33 }
theorem wide_nat (x y : Nat) (hx : x < 18446744073709551616) (hy : y < 18446744073709551616) (w : World) :
    Calls Try.prog 27 #[.int .u64 x, .int .u64 y] w fun e w' => e = .returned (.tuple #[.int .u64 ((x * y / 18446744073709551616 : Nat) : Int), .int .u64 ((x * y % 18446744073709551616 : Nat) : Int)]) ∧ w = w' :=
  (Any.bits_Mul64 wide_lays x y hx hy w).mono fun _ _ ⟨he, hw⟩ => ⟨he, hw.symm⟩

theorem wide_any (x y p : Int) (h : x * y = p) (hx0 : 0 ≤ x) (hx1 : x ≤ 18446744073709551615) (hy0 : 0 ≤ y) (hy1 : y ≤ 18446744073709551615) (w : World) :
    Calls Try.prog 27 #[.int .u64 x, .int .u64 y] w fun e w' => e = .returned (.tuple #[.int .u64 (p / 18446744073709551616), .int .u64 (p % 18446744073709551616)]) ∧ w = w' := by
  obtain ⟨m, rfl⟩ := Int.eq_ofNat_of_zero_le hx0
  obtain ⟨n, rfl⟩ := Int.eq_ofNat_of_zero_le hy0
  subst h
  have e := wide_nat m n (by omega) (by omega) w
  rw [Int.natCast_ediv, Int.natCast_emod, Int.natCast_mul] at e
  exact e

theorem mag_mul (a b : Int) : (mag a * mag b = if decide (a < 0) == decide (b < 0) then a * b else -(a * b)) := by
  unfold mag
  by_cases h : a < 0 <;> by_cases k : b < 0 <;> simp [h, k, Int.neg_mul, Int.mul_neg]

theorem mul_any (a b : Int) (w : World) (ha0 : -9223372036854775808 ≤ a) (ha1 : a ≤ 9223372036854775807) (hb0 : -9223372036854775808 ≤ b) (hb1 : b ≤ 9223372036854775807) :
    Calls Try.prog 18 #[.int .i64 a, .int .i64 b] w fun e w' => e = .returned (.tuple #[.int .i64 (val (a * b)), .bool (okB (a * b))]) ∧ w = w' := by
  obtain ⟨hm0, hm1⟩ := mag_bd a ha0 ha1
  obtain ⟨hn0, hn1⟩ := mag_bd b hb0 hb1
  obtain ⟨p, hp⟩ : ∃ p, mag a * mag b = p := ⟨_, rfl⟩
  have hp0 : 0 ≤ p := by rw [← hp]; exact Int.mul_nonneg hm0 hn0
  have hpm := mag_mul a b
  rw [hp] at hpm
  have HP := Lib.hid hp
  clear hp
  generalize hq : a * b = q at *
  have hin := two_in q
  have hout := two_out q
  by_cases hbig : 18446744073709551616 ≤ p
  · have HV := Lib.hid (hout (by split at hpm <;> omega))
    have ht : (p / 18446744073709551616 != 0) = true := by rw [bne_iff_ne]; omega
    generalize hH : p / 18446744073709551616 = H at *
    have HH := Lib.hid hH
    clear hin hout hpm hH hq
    go_enter Try.func18, Try.ntmps18
    go_wp2_with fail
    refine (size_any a _ ha0 ha1).mono ?_
    rintro e w' ⟨rfl, rfl⟩
    go_wp2_with fail
    refine (size_any b _ hb0 hb1).mono ?_
    rintro e w' ⟨rfl, rfl⟩
    go_wp2_with fail
    refine (wide_any _ _ p HP.out hm0 (by omega) hn0 (by omega) _).mono ?_
    rintro e w' ⟨rfl, rfl⟩
    rw [HH.out]
    go_wp2_with fail
    go_ret2
    exact ⟨by rw [← HV.out]; rfl, rfl⟩
  · have ht : (p / 18446744073709551616 != 0) = false := by rw [bne_eq_false_iff_eq]; omega
    have HL := Lib.hid (show p % 18446744073709551616 = p by omega)
    have hp1 : p ≤ 18446744073709551615 := by omega
    generalize hH : p / 18446744073709551616 = H at *
    have HH := Lib.hid hH
    clear hin hout hH hq hbig
    by_cases hs : decide (a < 0) == decide (b < 0)
    · rw [if_pos hs] at hpm
      subst hpm
      have hs' : (!(decide (a < 0) == decide (b < 0))) = false := by rw [hs]; rfl
      clear hs
      go_enter Try.func18, Try.ntmps18
      go_wp2_with fail
      refine (size_any a _ ha0 ha1).mono ?_
      rintro e w' ⟨rfl, rfl⟩
      go_wp2_with fail
      refine (size_any b _ hb0 hb1).mono ?_
      rintro e w' ⟨rfl, rfl⟩
      go_wp2_with fail
      refine (wide_any _ _ p HP.out hm0 (by omega) hn0 (by omega) _).mono ?_
      rintro e w' ⟨rfl, rfl⟩
      rw [HH.out, HL.out]
      go_wp2_with fail
      refine (fits_any p _ hp0 hp1).mono ?_
      rintro e w' ⟨rfl, rfl⟩
      go_wp2_with fail
      go_ret2
      exact ⟨rfl, rfl⟩
    · rw [if_neg hs] at hpm
      have hs' : (!(decide (a < 0) == decide (b < 0))) = true := by rw [Bool.eq_false_iff.2 hs]; rfl
      clear hs
      have HQ := Lib.hid (show q = -p by omega)
      clear hpm
      rw [HQ.out]
      go_enter Try.func18, Try.ntmps18
      go_wp2_with fail
      refine (size_any a _ ha0 ha1).mono ?_
      rintro e w' ⟨rfl, rfl⟩
      go_wp2_with fail
      refine (size_any b _ hb0 hb1).mono ?_
      rintro e w' ⟨rfl, rfl⟩
      go_wp2_with fail
      refine (wide_any _ _ p HP.out hm0 (by omega) hn0 (by omega) _).mono ?_
      rintro e w' ⟨rfl, rfl⟩
      rw [HH.out, HL.out]
      go_wp2_with fail
      refine (minus_any p _ hp0 hp1).mono ?_
      rintro e w' ⟨rfl, rfl⟩
      go_wp2_with fail
      go_ret2
      exact ⟨rfl, rfl⟩
end Go.Proofs.Ythoolmmnpnppkaa
