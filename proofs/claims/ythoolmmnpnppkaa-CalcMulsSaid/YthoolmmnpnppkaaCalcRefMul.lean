/- The document's own product. -/
import Derived.Test.YthoolmmnpnppkaaCalcRefTwo
namespace Go.Proofs.Ythoolmmnpnppkaa
open Go.RowKit
set_option linter.unusedVariables false

theorem radd_in (a b : Int) (w : World) (ha0 : -9223372036854775808 ≤ a) (ha1 : a ≤ 9223372036854775807) (hb0 : -9223372036854775808 ≤ b) (hb1 : b ≤ 9223372036854775807) (h : -9223372036854775808 ≤ a + b ∧ a + b ≤ 9223372036854775807) :
    Calls Try.prog 11 #[.int .i64 a, .int .i64 b] w fun e w' => e = .returned (.tuple #[.int .i64 (a + b), .bool true]) ∧ Below w.heap.size w w' := by
  rw [two_in _ h]; exact radd_any a b w ha0 ha1 hb0 hb1
theorem radd_out (a b : Int) (w : World) (ha0 : -9223372036854775808 ≤ a) (ha1 : a ≤ 9223372036854775807) (hb0 : -9223372036854775808 ≤ b) (hb1 : b ≤ 9223372036854775807) (h : ¬ (-9223372036854775808 ≤ a + b ∧ a + b ≤ 9223372036854775807)) :
    Calls Try.prog 11 #[.int .i64 a, .int .i64 b] w fun e w' => e = .returned (.tuple #[.int .i64 0, .bool false]) ∧ Below w.heap.size w w' := by
  rw [two_out _ h]; exact radd_any a b w ha0 ha1 hb0 hb1
theorem rneg_in (a : Int) (w : World) (ha0 : -9223372036854775808 < a) (ha1 : a ≤ 9223372036854775807) :
    Calls Try.prog 16 #[.int .i64 a] w fun e w' => e = .returned (.tuple #[.int .i64 (-a), .bool true]) ∧ w = w' := by
  rw [two_in (-a) (by omega)]; exact rneg_any a w (by omega) ha1
theorem rneg_least (w : World) :
    Calls Try.prog 16 #[.int .i64 (-9223372036854775808)] w fun e w' => e = .returned (.tuple #[.int .i64 0, .bool false]) ∧ w = w' := by
  have h := rneg_any (-9223372036854775808) w (by omega) (by omega)
  rw [← two_out _ (by omega)] at h
  exact h

/-- What is left of n behind k places. -/
def part (n : Int) (k : Nat) : Int := n / 2 ^ k
theorem part_none (n : Int) : part n 0 = n := by simp [part]
theorem part_half (n : Int) (k : Nat) : part n (k + 1) = part n k / 2 := by
  unfold part
  rw [Int.pow_succ, Int.ediv_ediv_of_nonneg (Int.pow_nonneg (by omega))]
theorem part_bd (n : Int) (h : 0 ≤ n) (k : Nat) : 0 ≤ part n k ∧ part n k ≤ n :=
  ⟨Int.ediv_nonneg h (Int.pow_nonneg (by omega)), Int.ediv_le_self _ h⟩
theorem part_far (n : Int) (h0 : 0 ≤ n) (h1 : n ≤ 9223372036854775808) : part n 64 = 0 := by
  unfold part; rw [Int.ediv_eq_zero_of_lt h0 (by omega)]
theorem out_more (x m n : Int) (h0 : 0 ≤ m) (h1 : m ≤ n) (h : ¬ (-9223372036854775808 ≤ x * m ∧ x * m ≤ 9223372036854775807)) : ¬ (-9223372036854775808 ≤ x * n ∧ x * n ≤ 9223372036854775807) := by
  by_cases hx : 0 ≤ x
  · have a := Int.mul_le_mul_of_nonneg_left h1 hx
    have b := Int.mul_nonneg hx h0
    omega
  · have a := Int.mul_le_mul_of_nonpos_left (show x ≤ 0 by omega) h1
    have b := Int.mul_nonneg (show 0 ≤ -x by omega) h0
    rw [Int.neg_mul] at b
    omega
theorem dbl (x q : Int) : x * (q / 2) + x * (q / 2) = x * (q / 2 * 2) := by rw [← Int.mul_add]; congr 1; omega
theorem odd_step (x q : Int) (h : q % 2 = 1) : x * (q / 2) + x * (q / 2) + x = x * q := by
  rw [dbl]; have : q = q / 2 * 2 + 1 := by omega
  conv => rhs; rw [this, Int.mul_add, Int.mul_one]
theorem even_step (x q : Int) (h : ¬ q % 2 = 1) : x * (q / 2) + x * (q / 2) = x * q := by
  rw [dbl]; congr 1; omega
theorem odd_is (n : Int) (k : Nat) (h : 0 ≤ n) (hq : part n k % 2 = 1) : ((n / 2 ^ k).tmod 2 == 1) = true := by
  rw [beq_iff_eq]; show (part n k).tmod 2 = 1; rw [Int.tmod_eq_emod_of_nonneg (part_bd n h k).1]; exact hq
theorem odd_not (n : Int) (k : Nat) (h : 0 ≤ n) (hq : ¬ part n k % 2 = 1) : ((n / 2 ^ k).tmod 2 == 1) = false := by
  rw [beq_eq_false_iff_ne]; show (part n k).tmod 2 ≠ 1; rw [Int.tmod_eq_emod_of_nonneg (part_bd n h k).1]; exact hq

theorem rmul_pos (a b : Int) (w : World) (hx0 : -9223372036854775808 ≤ a) (hx1 : a ≤ 9223372036854775807) (hb0 : 0 < b) (hb1 : b ≤ 9223372036854775807) (ha : (a == 0) = false) (hb : (b == 0) = false) :
    Calls Try.prog 19 #[.int .i64 a, .int .i64 b] w fun e w' => e = .returned (.tuple #[.int .i64 (val (a * b)), .bool (okB (a * b))]) ∧ Below w.heap.size w w' := by
  have hbn : ¬ b < 0 := by omega
  obtain ⟨n, HM, hn0, hn1, HX⟩ : ∃ n, Hid (mag b = n) ∧ 0 ≤ n ∧ n ≤ 9223372036854775808 ∧ Hid (a * b = a * n) := ⟨b, Lib.hid (mag_pos b (by omega)), by omega, by omega, Lib.hid rfl⟩
  go_enter Try.func19, Try.ntmps19
  go_wp2_with fail
  refine (rsize_any b _ (by omega) hb1).mono ?_
  rintro e w' ⟨rfl, rfl⟩
  rw [HM.out]
  go_wp2_with fail
  go_loopw [6, 11] (fun t i wr => ∃ (k : Nat) (y : Int), k ≤ 64 ∧ i = .int .i64 ((k : Int) - 1) ∧ t = .int .i64 y ∧ -9223372036854775808 ≤ y ∧ y ≤ 9223372036854775807 ∧ Hid (y = a * part n k) ∧ Hid (Below w.heap.size w wr)) (fun _ i _ => (intOf i + 1).toNat)
  case atStart => exact ⟨64, 0, by omega, by go_num, rfl, by omega, by omega, Lib.hid (by rw [part_far n hn0 hn1]; simp), Lib.hid (Below.refl _ _)⟩
  case round =>
    obtain ⟨k, y, hk, rfl, rfl, hy0, hy1, HY, HB⟩ := hrel
    by_cases hlt : 0 < k
    · obtain ⟨j, rfl⟩ : ∃ j, k = j + 1 := ⟨k - 1, by omega⟩
      have HQ := Lib.hid (part_bd n hn0 j)
      have HY2 : Hid (y = a * (part n j / 2)) := by have := HY.out; rw [part_half] at this; exact Lib.hid this
      by_cases hd : -9223372036854775808 ≤ y + y ∧ y + y ≤ 9223372036854775807
      · obtain ⟨hd0, hd1⟩ := hd
        by_cases hq : part n j % 2 = 1
        · have ht := odd_is n j hn0 hq
          have HO := Lib.hid (odd_step (a) (part n j) hq)
          clear hq
          by_cases hs : -9223372036854775808 ≤ y + y + a ∧ y + y + a ≤ 9223372036854775807
          · obtain ⟨hs0, hs1⟩ := hs
            go_wp2_with fail
            refine (radd_in y y _ hy0 hy1 hy0 hy1 ⟨hd0, hd1⟩).mono ?_
            rintro e wA ⟨rfl, hA⟩
            have HA := Lib.hid (HB.out.trans (hA.mono HB.out.size))
            clear hA
            go_wp2_with fail
            refine (radd_in (y + y) (a) _ hd0 hd1 hx0 hx1 ⟨hs0, hs1⟩).mono ?_
            rintro e wC ⟨rfl, hC⟩
            have HC := Lib.hid (HA.out.trans (hC.mono HA.out.size))
            clear hC
            go_wp2_with fail
            go_roundw
            case rel => exact ⟨j, y + y + a, by omega, by go_num, rfl, hs0, hs1, Lib.hid (by rw [← HO.out, HY2.out]), HC⟩
            case measure => simp [intOf]
          · have HS := Lib.hid hs
            clear hs
            go_wp2_with fail
            refine (radd_in y y _ hy0 hy1 hy0 hy1 ⟨hd0, hd1⟩).mono ?_
            rintro e wA ⟨rfl, hA⟩
            have HA := Lib.hid (HB.out.trans (hA.mono HB.out.size))
            clear hA
            go_wp2_with fail
            refine (radd_out (y + y) (a) _ hd0 hd1 hx0 hx1 HS.out).mono ?_
            rintro e wC ⟨rfl, hC⟩
            have HC := Lib.hid (HA.out.trans (hC.mono HA.out.size))
            clear hC
            go_wp2_with fail
            go_ret2
            exact ⟨by
              rw [HX.out, ← two_out _ (out_more (a) (part n j) n HQ.out.1 HQ.out.2 (by have h1 := HS.out; rw [HY2.out, HO.out] at h1; exact h1))]; rfl, HC.out⟩
        · have ht := odd_not n j hn0 hq
          have HO := Lib.hid (even_step (a) (part n j) hq)
          clear hq
          go_wp2_with fail
          refine (radd_in y y _ hy0 hy1 hy0 hy1 ⟨hd0, hd1⟩).mono ?_
          rintro e wA ⟨rfl, hA⟩
          have HA := Lib.hid (HB.out.trans (hA.mono HB.out.size))
          clear hA
          go_wp2_with fail
          go_roundw
          case rel => exact ⟨j, y + y, by omega, by go_num, rfl, hd0, hd1, Lib.hid (by rw [← HO.out, HY2.out]), HA⟩
          case measure => simp [intOf]
      · have HD := Lib.hid hd
        clear hd
        go_wp2_with fail
        refine (radd_out y y _ hy0 hy1 hy0 hy1 HD.out).mono ?_
        rintro e wA ⟨rfl, hA⟩
        have HA := Lib.hid (HB.out.trans (hA.mono HB.out.size))
        clear hA
        go_wp2_with fail
        go_ret2
        exact ⟨by
          rw [HX.out, ← two_out _ (out_more (a) (part n j / 2 * 2) n (by have := HQ.out.1; omega) (by have := HQ.out; omega) (by have h1 := HD.out; rw [HY2.out, dbl] at h1; exact h1))]; rfl, HA.out⟩
    · obtain rfl : k = 0 := by omega
      have HF : Hid (y = a * n) := by have := HY.out; rw [part_none] at this; exact Lib.hid this
      go_wp2_with fail
      go_ret2
      exact ⟨by rw [HX.out, ← HF.out, ← two_in y ⟨hy0, hy1⟩]; rfl, HB.out⟩

theorem rmul_neg (a b : Int) (w : World) (ha0 : -9223372036854775808 < a) (ha1 : a ≤ 9223372036854775807) (hb0 : -9223372036854775808 ≤ b) (hbn : b < 0) (ha : (a == 0) = false) (hb : (b == 0) = false) :
    Calls Try.prog 19 #[.int .i64 a, .int .i64 b] w fun e w' => e = .returned (.tuple #[.int .i64 (val (a * b)), .bool (okB (a * b))]) ∧ Below w.heap.size w w' := by
  obtain ⟨n, HM, hn0, hn1, HX⟩ : ∃ n, Hid (mag b = n) ∧ 0 ≤ n ∧ n ≤ 9223372036854775808 ∧ Hid (a * b = -a * n) := ⟨-b, Lib.hid (mag_neg b (by omega)), by omega, by omega, Lib.hid (by rw [Int.neg_mul_neg])⟩
  have hx0 : -9223372036854775808 ≤ -a := by omega
  have hx1 : -a ≤ 9223372036854775807 := by omega
  go_enter Try.func19, Try.ntmps19
  go_wp2_with fail
  refine (rsize_any b _ hb0 (by omega)).mono ?_
  rintro e w' ⟨rfl, rfl⟩
  rw [HM.out]
  go_wp2_with fail
  refine (rneg_in a _ ha0 ha1).mono ?_
  rintro e w' ⟨rfl, rfl⟩
  go_wp2_with fail
  go_loopw [6, 11] (fun t i wr => ∃ (k : Nat) (y : Int), k ≤ 64 ∧ i = .int .i64 ((k : Int) - 1) ∧ t = .int .i64 y ∧ -9223372036854775808 ≤ y ∧ y ≤ 9223372036854775807 ∧ Hid (y = -a * part n k) ∧ Hid (Below w.heap.size w wr)) (fun _ i _ => (intOf i + 1).toNat)
  case atStart => exact ⟨64, 0, by omega, by go_num, rfl, by omega, by omega, Lib.hid (by rw [part_far n hn0 hn1]; simp), Lib.hid (Below.refl _ _)⟩
  case round =>
    obtain ⟨k, y, hk, rfl, rfl, hy0, hy1, HY, HB⟩ := hrel
    by_cases hlt : 0 < k
    · obtain ⟨j, rfl⟩ : ∃ j, k = j + 1 := ⟨k - 1, by omega⟩
      have HQ := Lib.hid (part_bd n hn0 j)
      have HY2 : Hid (y = -a * (part n j / 2)) := by have := HY.out; rw [part_half] at this; exact Lib.hid this
      by_cases hd : -9223372036854775808 ≤ y + y ∧ y + y ≤ 9223372036854775807
      · obtain ⟨hd0, hd1⟩ := hd
        by_cases hq : part n j % 2 = 1
        · have ht := odd_is n j hn0 hq
          have HO := Lib.hid (odd_step (-a) (part n j) hq)
          clear hq
          by_cases hs : -9223372036854775808 ≤ y + y + -a ∧ y + y + -a ≤ 9223372036854775807
          · obtain ⟨hs0, hs1⟩ := hs
            go_wp2_with fail
            refine (radd_in y y _ hy0 hy1 hy0 hy1 ⟨hd0, hd1⟩).mono ?_
            rintro e wA ⟨rfl, hA⟩
            have HA := Lib.hid (HB.out.trans (hA.mono HB.out.size))
            clear hA
            go_wp2_with fail
            refine (radd_in (y + y) (-a) _ hd0 hd1 hx0 hx1 ⟨hs0, hs1⟩).mono ?_
            rintro e wC ⟨rfl, hC⟩
            have HC := Lib.hid (HA.out.trans (hC.mono HA.out.size))
            clear hC
            go_wp2_with fail
            go_roundw
            case rel => exact ⟨j, y + y + -a, by omega, by go_num, rfl, hs0, hs1, Lib.hid (by rw [← HO.out, HY2.out]), HC⟩
            case measure => simp [intOf]
          · have HS := Lib.hid hs
            clear hs
            go_wp2_with fail
            refine (radd_in y y _ hy0 hy1 hy0 hy1 ⟨hd0, hd1⟩).mono ?_
            rintro e wA ⟨rfl, hA⟩
            have HA := Lib.hid (HB.out.trans (hA.mono HB.out.size))
            clear hA
            go_wp2_with fail
            refine (radd_out (y + y) (-a) _ hd0 hd1 hx0 hx1 HS.out).mono ?_
            rintro e wC ⟨rfl, hC⟩
            have HC := Lib.hid (HA.out.trans (hC.mono HA.out.size))
            clear hC
            go_wp2_with fail
            go_ret2
            exact ⟨by
              rw [HX.out, ← two_out _ (out_more (-a) (part n j) n HQ.out.1 HQ.out.2 (by have h1 := HS.out; rw [HY2.out, HO.out] at h1; exact h1))]; rfl, HC.out⟩
        · have ht := odd_not n j hn0 hq
          have HO := Lib.hid (even_step (-a) (part n j) hq)
          clear hq
          go_wp2_with fail
          refine (radd_in y y _ hy0 hy1 hy0 hy1 ⟨hd0, hd1⟩).mono ?_
          rintro e wA ⟨rfl, hA⟩
          have HA := Lib.hid (HB.out.trans (hA.mono HB.out.size))
          clear hA
          go_wp2_with fail
          go_roundw
          case rel => exact ⟨j, y + y, by omega, by go_num, rfl, hd0, hd1, Lib.hid (by rw [← HO.out, HY2.out]), HA⟩
          case measure => simp [intOf]
      · have HD := Lib.hid hd
        clear hd
        go_wp2_with fail
        refine (radd_out y y _ hy0 hy1 hy0 hy1 HD.out).mono ?_
        rintro e wA ⟨rfl, hA⟩
        have HA := Lib.hid (HB.out.trans (hA.mono HB.out.size))
        clear hA
        go_wp2_with fail
        go_ret2
        exact ⟨by
          rw [HX.out, ← two_out _ (out_more (-a) (part n j / 2 * 2) n (by have := HQ.out.1; omega) (by have := HQ.out; omega) (by have h1 := HD.out; rw [HY2.out, dbl] at h1; exact h1))]; rfl, HA.out⟩
    · obtain rfl : k = 0 := by omega
      have HF : Hid (y = -a * n) := by have := HY.out; rw [part_none] at this; exact Lib.hid this
      go_wp2_with fail
      go_ret2
      exact ⟨by rw [HX.out, ← HF.out, ← two_in y ⟨hy0, hy1⟩]; rfl, HB.out⟩

theorem rmul_least (b : Int) (w : World) (hb0 : -9223372036854775808 ≤ b) (hbn : b < 0) (hb : (b == 0) = false) :
    Calls Try.prog 19 #[.int .i64 (-9223372036854775808), .int .i64 b] w fun e w' => e = .returned (.tuple #[.int .i64 (val (-9223372036854775808 * b)), .bool (okB (-9223372036854775808 * b))]) ∧ Below w.heap.size w w' := by
  have HV := Lib.hid (two_out (-9223372036854775808 * b) (by omega))
  go_enter Try.func19, Try.ntmps19
  go_wp2_with fail
  refine (rsize_any b _ hb0 (by omega)).mono ?_
  rintro e w' ⟨rfl, rfl⟩
  go_wp2_with fail
  refine (rneg_least _).mono ?_
  rintro e w' ⟨rfl, rfl⟩
  go_wp2_with fail
  go_ret2
  exact ⟨by rw [← HV.out]; rfl, Below.refl _ _⟩
theorem rmul_nought (a b : Int) (w : World) (h : a = 0 ∨ b = 0) :
    Calls Try.prog 19 #[.int .i64 a, .int .i64 b] w fun e w' => e = .returned (.tuple #[.int .i64 (val (a * b)), .bool (okB (a * b))]) ∧ Below w.heap.size w w' := by
  have HE : a * b = 0 := by rcases h with rfl | rfl <;> simp
  rw [HE, ← two_in 0 (by omega)]
  clear HE
  by_cases ha : a = 0
  · subst ha
    clear h
    go_enter Try.func19, Try.ntmps19
    go_wp2_with fail
    go_ret2
    exact ⟨rfl, Below.refl _ _⟩
  · obtain rfl : b = 0 := by omega
    have ha' : (a == 0) = false := by simpa using ha
    clear h ha
    go_enter Try.func19, Try.ntmps19
    go_wp2_with fail
    go_ret2
    exact ⟨rfl, Below.refl _ _⟩
theorem rmul_any (a b : Int) (w : World) (ha0 : -9223372036854775808 ≤ a) (ha1 : a ≤ 9223372036854775807) (hb0 : -9223372036854775808 ≤ b) (hb1 : b ≤ 9223372036854775807) :
    Calls Try.prog 19 #[.int .i64 a, .int .i64 b] w fun e w' => e = .returned (.tuple #[.int .i64 (val (a * b)), .bool (okB (a * b))]) ∧ Below w.heap.size w w' := by
  by_cases ha : a = 0
  · exact rmul_nought a b w (.inl ha)
  · by_cases hb : b = 0
    · exact rmul_nought a b w (.inr hb)
    · have ha' : (a == 0) = false := by simpa using ha
      have hb' : (b == 0) = false := by simpa using hb
      by_cases hp : 0 < b
      · exact rmul_pos a b w ha0 ha1 hp hb1 ha' hb'
      · by_cases hl : a = -9223372036854775808
        · subst hl; exact rmul_least b w hb0 (by omega) hb'
        · exact rmul_neg a b w (by omega) ha1 hb0 (by omega) ha' hb'
end Go.Proofs.Ythoolmmnpnppkaa
