/- The chapter's example. (Written by tools/src/mkfieldworks.py.) -/
import Derived.Test.YtgjfgabagfhnoaaFieldDo
namespace Go.Proofs.Ytgjfgabagfhnoaa
open Go.RowKit Go.ChangeShapes Go.WideShapes
set_option linter.unusedVariables false
set_option linter.unusedSimpArgs false
set_option maxRecDepth 10000

theorem ex_new : newF 0 4 10 = (⟨0, 10, 4, 4, 4, 4⟩, 0) := rfl
theorem ex_one : grantF ⟨0, 10, 4, 4, 4, 4⟩ 5 = ⟨0, 10, 4, 4, 9, 9⟩ ∧ grantE ⟨0, 10, 4, 4, 4, 4⟩ 5 = 0 := ⟨rfl, rfl⟩
theorem ex_two : grantF ⟨0, 10, 4, 4, 9, 9⟩ 2 = ⟨0, 10, 4, 4, 9, 9⟩ ∧ grantE ⟨0, 10, 4, 4, 9, 9⟩ 2 = 3 := ⟨rfl, rfl⟩
theorem ex_three : grantF ⟨0, 10, 4, 4, 9, 9⟩ (-4) = ⟨0, 10, 4, 0, 9, 5⟩ ∧ grantE ⟨0, 10, 4, 4, 9, 9⟩ (-4) = 0 := ⟨rfl, rfl⟩
set_option maxHeartbeats 1000000 in
theorem field_works (W : World) : Calls Try.prog 15 #[] W fun r w' => r = .returned (.bool true) ∧ Below W.heap.size W w' := by
  have H1 := Lib.hid fun w => new_any 0 0 0 0 4 10 w
  have H2 := Lib.hid fun w => grant_any ⟨0, 10, 4, 4, 4, 4⟩ 5 w (by decide) (by decide)
  have H3 := Lib.hid fun w => grant_any ⟨0, 10, 4, 4, 9, 9⟩ 2 w (by decide) (by decide)
  have H4 := Lib.hid fun w => grant_any ⟨0, 10, 4, 4, 9, 9⟩ (-4) w (by decide) (by decide)
  rw [ex_new] at H1
  rw [ex_one.1, ex_one.2] at H2
  rw [ex_two.1, ex_two.2] at H3
  rw [ex_three.1, ex_three.2] at H4
  go_enter Try.func15, Try.ntmps15
  go_wp2_with fail
  refine (H1.out _).mono ?_
  rintro e1 w1 ⟨rfl, hb1⟩
  have hbn : Below w1.heap.size w1 (w1.alloc (.cells #[.int .i64 0, .int .i64 10, .int .i64 4, .int .i64 4, .int .i64 4, .int .i64 4] 23)) := (Below.refl _ _).alloc (Nat.le_refl _) _
  have HY1 := Lib.hid (alloc_block w1 (.cells #[.int .i64 0, .int .i64 10, .int .i64 4, .int .i64 4, .int .i64 4, .int .i64 4] 23))
  have HB := Lib.hid (hb1.trans (hbn.mono hb1.size))
  clear hbn hb1
  go_wp2_with fail
  generalize w1.alloc (.cells #[.int .i64 0, .int .i64 10, .int .i64 4, .int .i64 4, .int .i64 4, .int .i64 4] 23) = V1 at *
  generalize w1.heap.size = Y1 at *
  refine (H2.out _).mono ?_
  rintro e1 w2 ⟨rfl, hb2⟩
  have hbn : Below w2.heap.size w2 (w2.alloc (.cells #[.int .i64 0, .int .i64 10, .int .i64 4, .int .i64 4, .int .i64 9, .int .i64 9] 23)) := (Below.refl _ _).alloc (Nat.le_refl _) _
  have HY2 := Lib.hid (alloc_block w2 (.cells #[.int .i64 0, .int .i64 10, .int .i64 4, .int .i64 4, .int .i64 9, .int .i64 9] 23))
  replace HY1 := Lib.hid (block_later (block_later HY1.out hb2) hbn)
  replace HB := Lib.hid (HB.out.trans ((hb2.trans (hbn.mono hb2.size)).mono HB.out.size))
  clear hbn hb2
  go_wp2_with fail
  generalize w2.alloc (.cells #[.int .i64 0, .int .i64 10, .int .i64 4, .int .i64 4, .int .i64 9, .int .i64 9] 23) = V2 at *
  generalize w2.heap.size = Y2 at *
  refine (H3.out _).mono ?_
  rintro e1 w3 ⟨rfl, hb3⟩
  have hbn : Below w3.heap.size w3 (w3.alloc (.cells #[.int .i64 0, .int .i64 10, .int .i64 4, .int .i64 4, .int .i64 9, .int .i64 9] 23)) := (Below.refl _ _).alloc (Nat.le_refl _) _
  have HY3 := Lib.hid (alloc_block w3 (.cells #[.int .i64 0, .int .i64 10, .int .i64 4, .int .i64 4, .int .i64 9, .int .i64 9] 23))
  replace HY1 := Lib.hid (block_later (block_later HY1.out hb3) hbn)
  replace HY2 := Lib.hid (block_later (block_later HY2.out hb3) hbn)
  replace HB := Lib.hid (HB.out.trans ((hb3.trans (hbn.mono hb3.size)).mono HB.out.size))
  clear hbn hb3
  go_wp2_with fail
  generalize w3.alloc (.cells #[.int .i64 0, .int .i64 10, .int .i64 4, .int .i64 4, .int .i64 9, .int .i64 9] 23) = V3 at *
  generalize w3.heap.size = Y3 at *
  refine (H4.out _).mono ?_
  rintro e1 w4 ⟨rfl, hb4⟩
  have hbn : Below w4.heap.size w4 (w4.alloc (.cells #[.int .i64 0, .int .i64 10, .int .i64 4, .int .i64 0, .int .i64 9, .int .i64 5] 23)) := (Below.refl _ _).alloc (Nat.le_refl _) _
  have HY4 := Lib.hid (alloc_block w4 (.cells #[.int .i64 0, .int .i64 10, .int .i64 4, .int .i64 0, .int .i64 9, .int .i64 5] 23))
  replace HY1 := Lib.hid (block_later (block_later HY1.out hb4) hbn)
  replace HY2 := Lib.hid (block_later (block_later HY2.out hb4) hbn)
  replace HY3 := Lib.hid (block_later (block_later HY3.out hb4) hbn)
  replace HB := Lib.hid (HB.out.trans ((hb4.trans (hbn.mono hb4.size)).mono HB.out.size))
  clear hbn hb4
  go_upto_region 5 with (fail)
  generalize w4.alloc (.cells #[.int .i64 0, .int .i64 10, .int .i64 4, .int .i64 0, .int .i64 9, .int .i64 5] 23) = V4 at *
  generalize w4.heap.size = Y4 at *
  obtain ⟨a20, a21, a22, a23, a24, a25⟩ := fcells HY2.out
  obtain ⟨a30, a31, a32, a33, a34, a35⟩ := fcells HY3.out
  obtain ⟨a40, a41, a42, a43, a44, a45⟩ := fcells HY4.out
  go_wp2_with fail
  go_ret
  exact ⟨rfl, HB.out⟩
end Go.Proofs.Ytgjfgabagfhnoaa
