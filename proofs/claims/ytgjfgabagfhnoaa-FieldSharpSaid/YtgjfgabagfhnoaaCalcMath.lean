/- Plain numbers: what fits into 64 bits with a sign, and what is answered of a number that fits, or does not. Nothing of the program. -/
import Derived.WalkKit
namespace Go.Proofs.Ytgjfgabagfhnoaa
set_option maxRecDepth 10000
/-- The number, if it is an int64, else 0. -/
def val (z : Int) : Int := if -9223372036854775808 ≤ z ∧ z ≤ 9223372036854775807 then z else 0
/-- Is it an int64? -/
def okB (z : Int) : Bool := decide (-9223372036854775808 ≤ z ∧ z ≤ 9223372036854775807)
theorem val_in (z : Int) (h : -9223372036854775808 ≤ z ∧ z ≤ 9223372036854775807) : val z = z := if_pos h
theorem val_out (z : Int) (h : ¬ (-9223372036854775808 ≤ z ∧ z ≤ 9223372036854775807)) : val z = 0 := if_neg h
theorem okB_in (z : Int) (h : -9223372036854775808 ≤ z ∧ z ≤ 9223372036854775807) : okB z = true := decide_eq_true h
theorem okB_out (z : Int) (h : ¬ (-9223372036854775808 ≤ z ∧ z ≤ 9223372036854775807)) : okB z = false := decide_eq_false h
theorem val_bd (z : Int) : -9223372036854775808 ≤ val z ∧ val z ≤ 9223372036854775807 := by unfold val; split <;> omega
theorem two_in (z : Int) (h : -9223372036854775808 ≤ z ∧ z ≤ 9223372036854775807) : Ending.returned (.tuple #[.int .i64 z, .bool true]) = Ending.returned (.tuple #[.int .i64 (val z), .bool (okB z)]) := by rw [val_in z h, okB_in z h]
theorem two_out (z : Int) (h : ¬ (-9223372036854775808 ≤ z ∧ z ≤ 9223372036854775807)) : Ending.returned (.tuple #[.int .i64 0, .bool false]) = Ending.returned (.tuple #[.int .i64 (val z), .bool (okB z)]) := by rw [val_out z h, okB_out z h]
/-- How far the second is above the first. -/
def dist (a b : Int) : Int := if b < a then 0 else b - a
theorem dist_lt (a b : Int) (h : b < a) : dist a b = 0 := if_pos h
theorem dist_ge (a b : Int) (h : ¬ b < a) : dist a b = b - a := if_neg h
theorem ret_int {k : IntKind} {a b : Int} (h : a = b) : Ending.returned (.int k a) = .returned (.int k b) := by rw [h]
/-- A number between two others. -/
def clip (x lo hi : Int) : Int := if x < lo then lo else if hi < x then hi else x
/-- The sign, over and over, as 64 bits. -/
def sg (x : Int) : Int := if x < 0 then 18446744073709551615 else 0
theorem u64w (x : Int) : IntKind.u64.wrap x = x % 18446744073709551616 := by simp [IntKind.wrap, IntKind.bits, IntKind.signed]
theorem i64w (x : Int) (h : -9223372036854775808 ≤ x ∧ x ≤ 9223372036854775807) : IntKind.i64.wrap x = x := by rw [IntKind.wrap_i64]; omega
theorem sg_neg (x : Int) (h : x < 0) : sg x = 18446744073709551615 := if_pos h
theorem sg_pos (x : Int) (h : ¬ x < 0) : sg x = 0 := if_neg h
theorem dist_bd (a b : Int) (ha0 : -9223372036854775808 ≤ a) (hb1 : b ≤ 9223372036854775807) : 0 ≤ dist a b ∧ dist a b ≤ 18446744073709551615 := by unfold dist; split <;> omega
theorem clip_lo (x lo hi : Int) (h : x < lo) : clip x lo hi = lo := if_pos h
theorem clip_hi (x lo hi : Int) (h : ¬ x < lo) (h' : hi < x) : clip x lo hi = hi := by unfold clip; rw [if_neg h, if_pos h']
theorem clip_in (x lo hi : Int) (h : ¬ x < lo) (h' : ¬ hi < x) : clip x lo hi = x := by unfold clip; rw [if_neg h, if_neg h']
/-- A number without its sign. -/
def mag (a : Int) : Int := if a < 0 then -a else a
theorem mag_neg (a : Int) (h : a < 0) : mag a = -a := if_pos h
theorem mag_pos (a : Int) (h : ¬ a < 0) : mag a = a := if_neg h
theorem mag_bd (a : Int) (ha0 : -9223372036854775808 ≤ a) (ha1 : a ≤ 9223372036854775807) : 0 ≤ mag a ∧ mag a ≤ 9223372036854775808 := by unfold mag; split <;> omega
end Go.Proofs.Ytgjfgabagfhnoaa
