/- Plain numbers: what fits into 64 bits with a sign, and what is answered of a number that fits, or does not. Nothing of the program. -/
/- The calc functions that do not loop, and the document's own: what each call answers. -/
/- The calc functions on two numbers, and the document's own opposite: what each call answers. -/
/- calc.Sum: what it answers of any row of numbers. -/
/- The document's own halves of a number. -/
/- The document's own sum. -/
/- Rows of numbers in memory: what both sums answer of any of them. -/
import Derived.WalkKit
import Derived.Test.YtdcanppiiikjgaaGreatDoorChecked
import Derived.WalkLawsBesides
import Derived.WalkSpells
import Derived.Lib.Hide
import Derived.Deep.QuietTactic
import Derived.BigQuiet
import Derived.LoopTactic
import Derived.Laws.Externs
import Derived.Outline
import Derived.OpenShut
namespace Go.Proofs.YtdcanppiiikjgaaGreatDoor
set_option maxRecDepth 10000
/-- The number, if it is an int64, else 0. -/
def val (z : Int) : Int := if -9223372036854775808 ≤ z ∧ z ≤ 9223372036854775807 then z else 0
/-- Is it an int64? -/
def okB (z : Int) : Bool := decide (-9223372036854775808 ≤ z ∧ z ≤ 9223372036854775807)
theorem val_in (z : Int) (h : -9223372036854775808 ≤ z ∧ z ≤ 9223372036854775807) : val z = z := if_pos h
theorem val_out (z : Int) (h : ¬ (-9223372036854775808 ≤ z ∧ z ≤ 9223372036854775807)) : val z = 0 := if_neg h
theorem okB_in (z : Int) (h : -9223372036854775808 ≤ z ∧ z ≤ 9223372036854775807) : okB z = true := decide_eq_true h
theorem okB_out (z : Int) (h : ¬ (-9223372036854775808 ≤ z ∧ z ≤ 9223372036854775807)) : okB z = false := decide_eq_false h
theorem val_bd (z : Int) : -9223372036854775808 ≤ val z ∧ val z ≤ 9223372036854775807 := by unfold val; split <;> omega
theorem two_in (z : Int) (h : -9223372036854775808 ≤ z ∧ z ≤ 9223372036854775807) : Ending.returned (.tuple #[.int .i64 z, .bool true]) = Ending.returned (.tuple #[.int .i64 (val z), .bool (okB z)]) := by rw [val_in z h, okB_in z h]
theorem two_out (z : Int) (h : ¬ (-9223372036854775808 ≤ z ∧ z ≤ 9223372036854775807)) : Ending.returned (.tuple #[.int .i64 0, .bool false]) = Ending.returned (.tuple #[.int .i64 (val z), .bool (okB z)]) := by rw [val_out z h, okB_out z h]
/-- How far the second is above the first. -/
def dist (a b : Int) : Int := if b < a then 0 else b - a
theorem dist_lt (a b : Int) (h : b < a) : dist a b = 0 := if_pos h
theorem dist_ge (a b : Int) (h : ¬ b < a) : dist a b = b - a := if_neg h
theorem ret_int {k : IntKind} {a b : Int} (h : a = b) : Ending.returned (.int k a) = .returned (.int k b) := by rw [h]
/-- A number between two others. -/
def clip (x lo hi : Int) : Int := if x < lo then lo else if hi < x then hi else x
/-- The sign, over and over, as 64 bits. -/
def sg (x : Int) : Int := if x < 0 then 18446744073709551615 else 0
theorem u64w (x : Int) : IntKind.u64.wrap x = x % 18446744073709551616 := by simp [IntKind.wrap, IntKind.bits, IntKind.signed]
theorem i64w (x : Int) (h : -9223372036854775808 ≤ x ∧ x ≤ 9223372036854775807) : IntKind.i64.wrap x = x := by rw [IntKind.wrap_i64]; omega
theorem sg_neg (x : Int) (h : x < 0) : sg x = 18446744073709551615 := if_pos h
theorem sg_pos (x : Int) (h : ¬ x < 0) : sg x = 0 := if_neg h
theorem dist_bd (a b : Int) (ha0 : -9223372036854775808 ≤ a) (hb1 : b ≤ 9223372036854775807) : 0 ≤ dist a b ∧ dist a b ≤ 18446744073709551615 := by unfold dist; split <;> omega
theorem clip_lo (x lo hi : Int) (h : x < lo) : clip x lo hi = lo := if_pos h
theorem clip_hi (x lo hi : Int) (h : ¬ x < lo) (h' : hi < x) : clip x lo hi = hi := by unfold clip; rw [if_neg h, if_pos h']
theorem clip_in (x lo hi : Int) (h : ¬ x < lo) (h' : ¬ hi < x) : clip x lo hi = x := by unfold clip; rw [if_neg h, if_neg h']
/-- A number without its sign. -/
def mag (a : Int) : Int := if a < 0 then -a else a
theorem mag_neg (a : Int) (h : a < 0) : mag a = -a := if_pos h
theorem mag_pos (a : Int) (h : ¬ a < 0) : mag a = a := if_neg h
theorem mag_bd (a : Int) (ha0 : -9223372036854775808 ≤ a) (ha1 : a ≤ 9223372036854775807) : 0 ≤ mag a ∧ mag a ≤ 9223372036854775808 := by unfold mag; split <;> omega
end Go.Proofs.YtdcanppiiikjgaaGreatDoor
namespace Go.Proofs.YtdcanppiiikjgaaGreatDoor
open Go.RowKit
set_option linter.unusedVariables false
set_option maxRecDepth 10000

theorem signs_any (a : Int) (w : World) (ha0 : -9223372036854775808 ≤ a) (ha1 : a ≤ 9223372036854775807) :
    Calls Tryz.prog 118 #[.int .i64 a] w fun e w' => e = .returned (.int .u64 (sg a)) ∧ w = w' := by
  go_enter Tryz.func118, Tryz.ntmps118
  go_wp2
  go_ret
  exact ⟨ret_int (by rw [u64w]; unfold sg; split <;> omega), rfl⟩

end Go.Proofs.YtdcanppiiikjgaaGreatDoor
namespace Go.Proofs.YtdcanppiiikjgaaGreatDoor
open Go.RowKit
set_option linter.unusedVariables false
set_option maxRecDepth 10000

end Go.Proofs.YtdcanppiiikjgaaGreatDoor
namespace Go.Proofs.YtdcanppiiikjgaaGreatDoor
open Go.RowKit
set_option linter.unusedVariables false
set_option maxRecDepth 10000

/-- The numbers' sum, in whole numbers. -/
def total : List Int → Int
  | [] => 0
  | x :: r => x + total r
theorem total_append (a b : List Int) : total (a ++ b) = total a + total b := by
  induction a with
  | nil => simp [total]
  | cons x r ih => simp [total, ih]; omega
theorem total_take (xs : List Int) (k : Nat) (h : k < xs.length) : total (xs.take (k + 1)) = total (xs.take k) + xs.getD k 0 := by
  rw [List.take_add_one, total_append]
  simp [List.getD, List.getElem?_eq_getElem h, total]
theorem total_bd (xs : List Int) (h : ∀ x ∈ xs, -9223372036854775808 ≤ x ∧ x ≤ 9223372036854775807) : -9223372036854775808 * (xs.length : Int) ≤ total xs ∧ total xs ≤ 9223372036854775807 * (xs.length : Int) := by
  induction xs with
  | nil => simp [total]
  | cons x r ih =>
    have h1 := h x (by simp)
    have h2 := ih (fun y hy => h y (by simp [hy]))
    simp [total]; omega
/-- The lower and the upper 64 bits of a number in 128 bits. -/
def loOf (s : Int) : Int := s % 18446744073709551616
def hiOf (s : Int) : Int := s / 18446744073709551616 % 18446744073709551616
/-- What is carried over. -/
def car (s x : Int) : Int := (loOf s + loOf x + 0) / 18446744073709551616
def carTwo (s x : Int) : Int := (hiOf s + sg x + car s x) / 18446744073709551616
theorem loOf_bd (s : Int) : 0 ≤ loOf s ∧ loOf s ≤ 18446744073709551615 := by unfold loOf; omega
theorem hiOf_bd (s : Int) : 0 ≤ hiOf s ∧ hiOf s ≤ 18446744073709551615 := by unfold hiOf; omega
theorem sg_bd (x : Int) : 0 ≤ sg x ∧ sg x ≤ 18446744073709551615 := by unfold sg; split <;> omega
theorem lo_step (s x : Int) : (loOf s + loOf x + 0) % 18446744073709551616 = loOf (s + x) := by unfold loOf; omega
theorem hi_step (s x : Int) (h : -9223372036854775808 ≤ x ∧ x ≤ 9223372036854775807) : (hiOf s + sg x + car s x) % 18446744073709551616 = hiOf (s + x) := by
  unfold hiOf sg car loOf; split <;> omega
theorem car_bd (s x : Int) : 0 ≤ car s x ∧ car s x ≤ 1 := by unfold car loOf; omega
theorem fits_iff (s : Int) (h : -85070591730234615865843651857942052864 ≤ s ∧ s ≤ 85070591730234615865843651857942052864) :
    (hiOf s = sg (wrap64 (loOf s)) ↔ (-9223372036854775808 ≤ s ∧ s ≤ 9223372036854775807)) := by
  unfold hiOf sg wrap64 loOf; split <;> constructor <;> omega
theorem low_is (s : Int) (h : -9223372036854775808 ≤ s ∧ s ≤ 9223372036854775807) : wrap64 (loOf s) = s := by
  unfold wrap64 loOf; omega

theorem run_add (x y c : Int) (hx : 0 ≤ x) (hy : 0 ≤ y) (hc0 : 0 ≤ c) (hc : c ≤ 1) (w : World) :
    (callFunc 117 #[.int .u64 x, .int .u64 y, .int .u64 c]).run Tryz.prog w =
      .ok (.value (.tuple #[.int .u64 ((x + y + c) % 18446744073709551616), .int .u64 ((x + y + c) / 18446744073709551616)])) w := by
  rw [run_callFunc_extern Tryz.func117 (by kernel_rfl) (by kernel_rfl) (by kernel_rfl) (e := add64Entry) (by kernel_rfl), run_add64 x y c hx hy hc0 hc]
  rfl

theorem run_low (s x : Int) (w : World) :
    (callFunc 117 #[.int .u64 (loOf s), .int .u64 (IntKind.u64.wrap x), .int .u64 0]).run Tryz.prog w = .ok (.value (.tuple #[.int .u64 (loOf (s + x)), .int .u64 (car s x)])) w := by
  rw [show IntKind.u64.wrap x = loOf x from u64w x, run_add _ _ _ (loOf_bd s).1 (loOf_bd x).1 (by omega) (by omega), lo_step]
  rfl
theorem run_high (s x : Int) (w : World) (h : -9223372036854775808 ≤ x ∧ x ≤ 9223372036854775807) :
    (callFunc 117 #[.int .u64 (hiOf s), .int .u64 (sg x), .int .u64 (car s x)]).run Tryz.prog w = .ok (.value (.tuple #[.int .u64 (hiOf (s + x)), .int .u64 (carTwo s x)])) w := by
  rw [run_add _ _ _ (hiOf_bd s).1 (sg_bd x).1 (car_bd s x).1 (car_bd s x).2, hi_step s x h]
  rfl

theorem sum_row (b off len cap : Nat) (xs : List Int) (w : World) (hz : len = xs.length) (hbig : len ≤ 1000000) (hc : ∀ j, j < xs.length → w.cell? ⟨b, off + j, none⟩ = some (.int .i64 (xs.getD j 0)))
    (hr : ∀ x ∈ xs, -9223372036854775808 ≤ x ∧ x ≤ 9223372036854775807) :
    Calls Tryz.prog 112 #[.slice (some ⟨b, off, none⟩) len cap] w fun e w' => e = .returned (.tuple #[.int .i64 (val (total xs)), .bool (okB (total xs))]) ∧ w = w' := by
  have HZ := Lib.hid hz
  have HC := Lib.hid hc
  have HR := Lib.hid hr
  clear hz hc hr
  go_enter Tryz.func112, Tryz.ntmps112
  go_wp2_with fail
  go_loop [4, 5, 12] (fun hi lo i => ∃ (k : Nat) (s : Int), k ≤ len ∧ hi = .int .u64 (hiOf s) ∧ lo = .int .u64 (loOf s) ∧ i = .int .i64 k ∧ Hid (s = total (xs.take k))) (fun _ _ i => len - (intOf i).toNat)
  case atStart => exact ⟨0, 0, Nat.zero_le _, rfl, rfl, rfl, Lib.hid rfl⟩
  case round =>
    obtain ⟨k, s, hk, rfl, rfl, rfl, HS⟩ := hrel
    by_cases hlt : k < len
    · obtain ⟨x, hx, hx0, hx1, hcell⟩ : ∃ x, Hid (x = xs.getD k 0) ∧ -9223372036854775808 ≤ x ∧ x ≤ 9223372036854775807 ∧ w.cell? ⟨b, off + k, none⟩ = some (.int .i64 x) := by
        have hk' : k < xs.length := by rw [← HZ.out]; exact hlt
        have hm := HR.out (xs.getD k 0) (by rw [List.getD, List.getElem?_eq_getElem hk']; simp)
        exact ⟨_, Lib.hid rfl, hm.1, hm.2, HC.out k hk'⟩
      go_wp2_with fail
      rw [run_low]
      go_wp2_with (go_at_call 118; refine (signs_any _ _ (by omega) (by omega)).mono ?_; rintro e w' ⟨rfl, rfl⟩)
      rw [run_high s x w ⟨hx0, hx1⟩]
      go_wp2_with fail
      go_round
      case rel => exact ⟨k + 1, s + x, by omega, rfl, rfl, by go_num, Lib.hid (by rw [HS.out, hx.out, total_take xs k (by rw [← HZ.out]; exact hlt)])⟩
      case measure => simp [intOf]; omega
    · have hs : s = total xs := by
        rw [HS.out, List.take_of_length_le]
        rw [← HZ.out]; omega
      have hb := total_bd xs HR.out
      rw [← HZ.out, ← hs] at hb
      have hiff := fits_iff s (by omega)
      have hw0 : -9223372036854775808 ≤ wrap64 (loOf s) ∧ wrap64 (loOf s) ≤ 9223372036854775807 := by unfold wrap64; omega
      have hlow := low_is s
      clear HS hb HC HR HZ
      subst hs
      by_cases hf : -9223372036854775808 ≤ total xs ∧ total xs ≤ 9223372036854775807
      · have ht : (hiOf (total xs) != sg (wrap64 (loOf (total xs)))) = false := by rw [hiff.2 hf]; simp
        have hv := two_in _ hf
        have hl := hlow hf
        generalize hiOf (total xs) = H at *
        generalize loOf (total xs) = L at *
        generalize hy : wrap64 L = y at *
        have HL := Lib.hid hl
        have HV := Lib.hid hv
        have HY := Lib.hid hy
        clear hl hv hiff hlow hf hy
        go_wp2_with fail
        rw [HY.out]
        refine (signs_any _ _ hw0.1 hw0.2).mono ?_
        rintro e w' ⟨rfl, rfl⟩
        go_wp2_with fail
        go_ret2
        exact ⟨by rw [← HV.out, HL.out]; rfl, rfl⟩
      · have ht : (hiOf (total xs) != sg (wrap64 (loOf (total xs)))) = true := by
          rw [bne_iff_ne]; exact fun h => hf (hiff.1 h)
        have hv := two_out _ hf
        generalize hiOf (total xs) = H at *
        generalize loOf (total xs) = L at *
        generalize hy : wrap64 L = y at *
        have HV := Lib.hid hv
        have HY := Lib.hid hy
        clear hv hiff hlow hf hy
        go_wp2_with fail
        rw [HY.out]
        refine (signs_any _ _ hw0.1 hw0.2).mono ?_
        rintro e w' ⟨rfl, rfl⟩
        go_wp2_with fail
        go_ret2
        exact ⟨by rw [← HV.out]; rfl, rfl⟩

theorem sum_none (p : Option Addr) (cap : Nat) (w : World) :
    Calls Tryz.prog 112 #[.slice p 0 cap] w fun e w' => e = .returned (.tuple #[.int .i64 0, .bool true]) ∧ w = w' := by
  go_enter Tryz.func112, Tryz.ntmps112
  go_wp2_with fail
  go_loop [4, 5, 12] (fun hi lo i => hi = .int .u64 0 ∧ lo = .int .u64 0 ∧ i = .int .i64 0) (fun _ _ i => 0)
  case atStart => exact ⟨rfl, rfl, rfl⟩
  case round =>
    obtain ⟨rfl, rfl, rfl⟩ := hrel
    have h0 := Lib.hid (show sg 0 = 0 from rfl)
    go_wp2_with (go_at_call 118; refine (signs_any _ _ (by omega) (by omega)).mono ?_; rintro e w' ⟨rfl, rfl⟩; rw [h0.out])
    go_ret2
    exact ⟨rfl, rfl⟩
end Go.Proofs.YtdcanppiiikjgaaGreatDoor
namespace Go.Proofs.YtdcanppiiikjgaaGreatDoor
open Go.RowKit
set_option linter.unusedVariables false
set_option maxRecDepth 10000

/-- A block of two cells that was laid ahead of a call that writes nothing old. -/
theorem two_cells {w w' : World} {c0 c1 : Value} {T : TypeId} (h : Below (w.alloc (.cells #[c0, c1] T)).heap.size (w.alloc (.cells #[c0, c1] T)) w') :
    w'.cell? ⟨w.heap.size, 0, none⟩ = some c0 ∧ w'.cell? ⟨w.heap.size, 1, none⟩ = some c1 ∧ w'.frozen? ⟨w.heap.size, 0, none⟩ = false ∧ w'.frozen? ⟨w.heap.size, 1, none⟩ = false ∧ w.heap.size < w'.heap.size := by
  refine ⟨?_, ?_, ?_, ?_, ?_⟩
  · rw [h.cell (p := ⟨w.heap.size, 0, none⟩) (by simp)]; simp
  · rw [h.cell (p := ⟨w.heap.size, 1, none⟩) (by simp)]; simp
  · rw [h.frozen (p := ⟨w.heap.size, 0, none⟩) (by simp)]; simp
  · rw [h.frozen (p := ⟨w.heap.size, 1, none⟩) (by simp)]; simp
  · have := h.size; simp at this; omega

/-- The upper and the lower half. -/
def hiH (a : Int) : Int := a / 4294967296
def loH (a : Int) : Int := a % 4294967296
theorem halves_bd (a : Int) (h0 : -9223372036854775808 ≤ a) (h1 : a ≤ 9223372036854775807) : -2147483648 ≤ hiH a ∧ hiH a ≤ 2147483647 ∧ 0 ≤ loH a ∧ loH a ≤ 4294967295 := by unfold hiH loH; omega
theorem halves_up (a : Int) : -1 - hiH (-(a + 1)) = hiH a ∧ 4294967295 - loH (-(a + 1)) = loH a := by unfold hiH loH; omega

theorem halves_pos (a : Int) (w : World) (h0 : 0 ≤ a) (h1 : a ≤ 9223372036854775807) :
    Calls Tryz.prog 114 #[.int .i64 a] w fun e w' => e = .returned (.agg #[.int .i64 (hiH a), .int .i64 (loH a)]) ∧ Below w.heap.size w w' := by
  have hn : ¬ a < 0 := by omega
  go_enter Tryz.func114, Tryz.ntmps114
  go_wp2
  exact bodyPost_ret (v := .agg #[.int .i64 (hiH a), .int .i64 (loH a)]) (by simp [results, Tryz.results114, go_sem, hiH, loH]) rfl ⟨rfl, (Below.refl _ _).alloc (Nat.le_refl _) _⟩

theorem halves_any (a : Int) (w : World) (h0 : -9223372036854775808 ≤ a) (h1 : a ≤ 9223372036854775807) :
    Calls Tryz.prog 114 #[.int .i64 a] w fun e w' => e = .returned (.agg #[.int .i64 (hiH a), .int .i64 (loH a)]) ∧ Below w.heap.size w w' := by
  by_cases hn : a < 0
  · have hm0 : 0 ≤ -(a + 1) := by omega
    have hb := halves_bd (-(a + 1)) (by omega) (by omega)
    obtain ⟨hb0, hb1, hb2, hb3⟩ := hb
    have HU := Lib.hid (halves_up a)
    go_enter Tryz.func114, Tryz.ntmps114
    go_wp2_with fail
    refine (halves_pos _ _ (by omega) (by omega)).mono ?_
    rintro e w' ⟨rfl, hbel⟩
    obtain ⟨hc0, hc1, hf0, hf1, hsz⟩ := two_cells hbel
    have HB := Lib.hid hbel
    clear hbel
    go_wp2_with fail
    refine bodyPost_ret (v := .agg #[.int .i64 (hiH a), .int .i64 (loH a)]) ?_ rfl ⟨rfl, ?_⟩
    · simp [results, Tryz.results114, go_sem, hc0, hc1, hsz, HU.out.1, HU.out.2]
    · exact ((((((Below.refl _ _).alloc (Nat.le_refl _) _).trans (HB.out.mono (by simp))).setCell (by simp) _).setCell (by simp) _)).alloc (by simp [World.setCell]; omega) _
  · exact halves_pos a w (by omega) h1
end Go.Proofs.YtdcanppiiikjgaaGreatDoor
namespace Go.Proofs.YtdcanppiiikjgaaGreatDoor
open Go.RowKit
set_option linter.unusedVariables false
set_option maxRecDepth 10000

theorem step_no (s x : Int) (h : ¬ 4294967296 ≤ loH s + loH x) : hiH s + hiH x = hiH (s + x) ∧ loH s + loH x = loH (s + x) := by unfold hiH loH at *; omega
theorem step_yes (s x : Int) (h : 4294967296 ≤ loH s + loH x) : hiH s + hiH x + 1 = hiH (s + x) ∧ loH s + loH x - 4294967296 = loH (s + x) := by unfold hiH loH at *; omega
theorem parts_bd (s : Int) (n : Nat) (hn : n ≤ 1000000) (h0 : -9223372036854775808 * (n : Int) ≤ s) (h1 : s ≤ 9223372036854775807 * (n : Int)) : -2147483648000000 ≤ hiH s ∧ hiH s ≤ 2147483648000000 ∧ 0 ≤ loH s ∧ loH s ≤ 4294967295 := by
  unfold hiH loH; omega
theorem fits_parts (s : Int) : (-2147483648 ≤ hiH s ∧ hiH s ≤ 2147483647) ↔ (-9223372036854775808 ≤ s ∧ s ≤ 9223372036854775807) := by unfold hiH; omega
theorem whole_parts (s : Int) : hiH s * 4294967296 + loH s = s := by unfold hiH loH; omega

theorem rsum_row (b off len cap : Nat) (xs : List Int) (w : World) (hb : b < w.heap.size) (hz : len = xs.length) (hbig : len ≤ 1000000) (hc : ∀ j, j < xs.length → w.cell? ⟨b, off + j, none⟩ = some (.int .i64 (xs.getD j 0)))
    (hr : ∀ x ∈ xs, -9223372036854775808 ≤ x ∧ x ≤ 9223372036854775807) :
    Calls Tryz.prog 106 #[.slice (some ⟨b, off, none⟩) len cap] w fun e w' => e = .returned (.tuple #[.int .i64 (val (total xs)), .bool (okB (total xs))]) ∧ Below w.heap.size w w' := by
  have HZ := Lib.hid hz
  have HC := Lib.hid hc
  have HR := Lib.hid hr
  clear hz hc hr
  go_enter Tryz.func106, Tryz.ntmps106
  go_wp2_with fail
  go_loopw [5] (fun i wr => ∃ (k : Nat) (s : Int), k ≤ len ∧ i = .int .i64 k ∧ Hid (s = total (xs.take k)) ∧ -9223372036854775808 * (k : Int) ≤ s ∧ s ≤ 9223372036854775807 * (k : Int) ∧
      wr.cell? ⟨w.heap.size, 0, none⟩ = some (.int .i64 (hiH s)) ∧ wr.cell? ⟨w.heap.size, 1, none⟩ = some (.int .i64 (loH s)) ∧ wr.frozen? ⟨w.heap.size, 0, none⟩ = false ∧ wr.frozen? ⟨w.heap.size, 1, none⟩ = false ∧ w.heap.size < wr.heap.size ∧ Hid (Below w.heap.size w wr)) (fun i _ => len - (intOf i).toNat)
  case atStart => exact ⟨0, 0, Nat.zero_le _, rfl, Lib.hid rfl, by omega, by omega, by simp [hiH], by simp [loH], by simp, by simp, by simp, Lib.hid ((Below.refl _ _).alloc (Nat.le_refl _) _)⟩
  case round =>
    obtain ⟨k, s, hk, rfl, HS, hs0, hs1, hc0, hc1, hf0, hf1, hsz, HB⟩ := hrel
    have HS0 := hs0
    have HS1 := hs1
    obtain ⟨hp0, hp1, hp2, hp3⟩ := parts_bd s k (by omega) hs0 hs1
    by_cases hlt : k < len
    · obtain ⟨x, hx, hx0, hx1, hcell⟩ : ∃ x, Hid (x = xs.getD k 0) ∧ -9223372036854775808 ≤ x ∧ x ≤ 9223372036854775807 ∧ wr.cell? ⟨b, off + k, none⟩ = some (.int .i64 x) := by
        have hk' : k < xs.length := by rw [← HZ.out]; exact hlt
        have hm := HR.out (xs.getD k 0) (by rw [List.getD, List.getElem?_eq_getElem hk']; simp)
        exact ⟨_, Lib.hid rfl, hm.1, hm.2, by rw [HB.out.cell (p := ⟨b, off + k, none⟩) hb]; exact HC.out k hk'⟩
      obtain ⟨hq0, hq1, hq2, hq3⟩ := halves_bd x hx0 hx1
      by_cases hov : 4294967296 ≤ loH s + loH x
      · have HN := Lib.hid (step_yes s x hov)
        go_wp2_with fail
        refine (halves_any _ _ hx0 hx1).mono ?_
        rintro e w1 ⟨rfl, hb1⟩
        have gc0 : w1.cell? ⟨w.heap.size, 0, none⟩ = some (.int .i64 (hiH s)) := by rw [hb1.cell (p := ⟨w.heap.size, 0, none⟩) hsz]; exact hc0
        have gc1 : w1.cell? ⟨w.heap.size, 1, none⟩ = some (.int .i64 (loH s)) := by rw [hb1.cell (p := ⟨w.heap.size, 1, none⟩) hsz]; exact hc1
        have gf0 : w1.frozen? ⟨w.heap.size, 0, none⟩ = false := by rw [hb1.frozen (p := ⟨w.heap.size, 0, none⟩) hsz]; exact hf0
        have gf1 : w1.frozen? ⟨w.heap.size, 1, none⟩ = false := by rw [hb1.frozen (p := ⟨w.heap.size, 1, none⟩) hsz]; exact hf1
        have gsz : w.heap.size < w1.heap.size := Nat.lt_of_lt_of_le hsz hb1.size
        have HB1 := Lib.hid (HB.out.trans (hb1.mono (Nat.le_of_lt hsz)))
        clear hb1 HB
        go_wp2_with fail
        go_roundw
        case rel =>
          refine ⟨k + 1, s + x, by omega, by go_num, Lib.hid (by rw [HS.out, hx.out, total_take xs k (by rw [← HZ.out]; exact hlt)]), by omega, by omega, ?_, ?_, ?_, ?_, ?_, ?_⟩
          · rw [← HN.out.1]; go_simp
          · rw [← HN.out.2]; go_simp; exact World.cell?_setCell_same _ _ _ (u := .int .i64 (loH s + loH x)) (by go_simp)
          · go_simp
          · go_simp
          · simp [World.setCell]; omega
          · exact Lib.hid (((((HB1.out.setCell (Nat.le_refl _) _).setCell (Nat.le_refl _) _).setCell (Nat.le_refl _) _).setCell (Nat.le_refl _) _).alloc (by simp [World.setCell]; omega) _)
        case measure => simp [intOf]; omega
      · have HN := Lib.hid (step_no s x hov)
        go_wp2_with fail
        refine (halves_any _ _ hx0 hx1).mono ?_
        rintro e w1 ⟨rfl, hb1⟩
        have gc0 : w1.cell? ⟨w.heap.size, 0, none⟩ = some (.int .i64 (hiH s)) := by rw [hb1.cell (p := ⟨w.heap.size, 0, none⟩) hsz]; exact hc0
        have gc1 : w1.cell? ⟨w.heap.size, 1, none⟩ = some (.int .i64 (loH s)) := by rw [hb1.cell (p := ⟨w.heap.size, 1, none⟩) hsz]; exact hc1
        have gf0 : w1.frozen? ⟨w.heap.size, 0, none⟩ = false := by rw [hb1.frozen (p := ⟨w.heap.size, 0, none⟩) hsz]; exact hf0
        have gf1 : w1.frozen? ⟨w.heap.size, 1, none⟩ = false := by rw [hb1.frozen (p := ⟨w.heap.size, 1, none⟩) hsz]; exact hf1
        have gsz : w.heap.size < w1.heap.size := Nat.lt_of_lt_of_le hsz hb1.size
        have HB1 := Lib.hid (HB.out.trans (hb1.mono (Nat.le_of_lt hsz)))
        clear hb1 HB
        go_wp2_with fail
        go_roundw
        case rel =>
          refine ⟨k + 1, s + x, by omega, by go_num, Lib.hid (by rw [HS.out, hx.out, total_take xs k (by rw [← HZ.out]; exact hlt)]), by omega, by omega, ?_, ?_, ?_, ?_, ?_, ?_⟩
          · rw [← HN.out.1]; go_simp
          · rw [← HN.out.2]; go_simp
          · go_simp
          · go_simp
          · simp [World.setCell]; omega
          · exact Lib.hid (((HB1.out.setCell (Nat.le_refl _) _).setCell (Nat.le_refl _) _).alloc (by simp [World.setCell]; omega) _)
        case measure => simp [intOf]; omega
    · have hs : s = total xs := by
        rw [HS.out, List.take_of_length_le]
        rw [← HZ.out]; omega
      have hfit := fits_parts s
      have hwh := whole_parts s
      clear HC HR HZ HS hs0 hs1 HS0 HS1
      subst hs
      have hin := two_in (total xs)
      have hout := two_out (total xs)
      generalize hiH (total xs) = H at *
      generalize loH (total xs) = L at *
      by_cases h1 : H < -2147483648
      · have HV := Lib.hid (hout (by omega))
        clear hfit hwh hin hout
        go_wp2_with fail
        go_ret2
        exact ⟨by rw [← HV.out]; rfl, HB.out⟩
      · by_cases h2 : 2147483647 < H
        · have HV := Lib.hid (hout (by omega))
          clear hfit hwh hin hout
          go_wp2_with fail
          go_ret2
          exact ⟨by rw [← HV.out]; rfl, HB.out⟩
        · have HV := Lib.hid (hin (by omega))
          have HW := Lib.hid hwh
          have hb2 : -9223372036854775808 ≤ H * 4294967296 ∧ H * 4294967296 ≤ 9223372036854775807 := by omega
          have hb3 : -9223372036854775808 ≤ H * 4294967296 + L ∧ H * 4294967296 + L ≤ 9223372036854775807 := by omega
          obtain ⟨hb20, hb21⟩ := hb2
          obtain ⟨hb30, hb31⟩ := hb3
          clear hfit hwh hin hout
          go_wp2_with fail
          go_ret2
          exact ⟨by rw [← HV.out, ← HW.out]; rfl, HB.out⟩

theorem rsum_none (p : Option Addr) (cap : Nat) (w : World) :
    Calls Tryz.prog 106 #[.slice p 0 cap] w fun e w' => e = .returned (.tuple #[.int .i64 0, .bool true]) ∧ Below w.heap.size w w' := by
  go_enter Tryz.func106, Tryz.ntmps106
  go_wp2_with fail
  go_loop [5] (fun i => i = .int .i64 0) (fun _ => 0)
  case atStart => exact rfl
  case round =>
    obtain rfl := hrel
    go_wp2_with fail
    go_ret2
    exact ⟨rfl, (Below.refl _ _).alloc (Nat.le_refl _) _⟩
end Go.Proofs.YtdcanppiiikjgaaGreatDoor
namespace Go.Proofs.YtdcanppiiikjgaaGreatDoor
open Go.RowKit Go.ChangeShapes
set_option linter.unusedVariables false
set_option maxRecDepth 10000

/-- From p on n numbers lie there, xs. -/
def RowN (w : World) (p : Option Addr) (n : Nat) (xs : List Int) : Prop :=
  n = xs.length ∧ (∀ x ∈ xs, -9223372036854775808 ≤ x ∧ x ≤ 9223372036854775807) ∧
    (n = 0 ∨ ∃ b off, p = some ⟨b, off, none⟩ ∧ b < w.heap.size ∧ ∀ j, j < xs.length → w.cell? ⟨b, off + j, none⟩ = some (.int .i64 (xs.getD j 0)))
theorem RowN.later {w w' : World} {p : Option Addr} {n : Nat} {xs : List Int} (h : RowN w p n xs) (hb : Below w.heap.size w w') : RowN w' p n xs := by
  obtain ⟨h1, h2, h3⟩ := h
  refine ⟨h1, h2, ?_⟩
  rcases h3 with h3 | ⟨b, off, hp, hlt, hc⟩
  · exact Or.inl h3
  · exact Or.inr ⟨b, off, hp, Nat.lt_of_lt_of_le hlt hb.size, fun j hj => by rw [hb.cell (p := ⟨b, off + j, none⟩) hlt]; exact hc j hj⟩
theorem sum_of (p : Option Addr) (n cap : Nat) (xs : List Int) (w : World) (h : RowN w p n xs) (hbig : n ≤ 1000000) :
    Calls Tryz.prog 112 #[.slice p n cap] w fun e w' => e = .returned (.tuple #[.int .i64 (val (total xs)), .bool (okB (total xs))]) ∧ w = w' := by
  obtain ⟨h1, h2, h3⟩ := h
  rcases h3 with h3 | ⟨b, off, rfl, hlt, hc⟩
  · obtain rfl : xs = [] := List.eq_nil_of_length_eq_zero (by omega)
    subst h3
    have e := sum_none p cap w
    rw [two_in 0 (by omega)] at e
    exact e
  · exact sum_row b off n cap xs w h1 hbig hc h2
theorem rsum_of (p : Option Addr) (n cap : Nat) (xs : List Int) (w : World) (h : RowN w p n xs) (hbig : n ≤ 1000000) :
    Calls Tryz.prog 106 #[.slice p n cap] w fun e w' => e = .returned (.tuple #[.int .i64 (val (total xs)), .bool (okB (total xs))]) ∧ Below w.heap.size w w' := by
  obtain ⟨h1, h2, h3⟩ := h
  rcases h3 with h3 | ⟨b, off, rfl, hlt, hc⟩
  · obtain rfl : xs = [] := List.eq_nil_of_length_eq_zero (by omega)
    subst h3
    have e := rsum_none p cap w
    rw [two_in 0 (by omega)] at e
    exact e
  · exact rsum_row b off n cap xs w hlt h1 hbig hc h2
/-- The first numbers of a row. -/
theorem row_take {w : World} {x : Addr} {zs : List Int} (k : Nat) (hk : k ≤ zs.length) (hc : ∀ i, i < zs.length → w.cell? (x.add i) = some (.int .i64 (zs.getD i 0))) (hwf : ∀ n ∈ zs, (Lit.int .i64 n).wf = true) : RowN w (some x) k (zs.take k) := by
  refine ⟨by simp; omega, fun n hn => bounds_i64 (hwf n (List.mem_of_mem_take hn)), ?_⟩
  by_cases hk0 : k = 0
  · exact Or.inl hk0
  · refine Or.inr ?_
    obtain ⟨b, off, spot⟩ := x
    have h0 := hc 0 (by omega)
    have hspot : spot = none := by simpa [Addr.add] using World.cell?_spot h0
    subst hspot
    refine ⟨b, off, rfl, ?_, fun j hj => ?_⟩
    · exact World.block_lt_of_cell? _ _ h0
    · have hj' : j < k := by simp at hj; omega
      have h := hc j (by omega)
      rw [show (zs.take k).getD j 0 = zs.getD j 0 by simp [List.getD, hj']]
      rw [← Go.WideShapes.add_plain]; exact h
end Go.Proofs.YtdcanppiiikjgaaGreatDoor
