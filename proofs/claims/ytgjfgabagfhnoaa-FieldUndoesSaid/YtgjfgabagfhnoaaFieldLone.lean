/- FieldNew, FieldTurns, FieldUndoes. (Written by tools/src/mkfieldlaws.py.) -/
import Derived.Test.YtgjfgabagfhnoaaFieldWorks
import Derived.Deep.Cut
namespace Go.Proofs.Ytgjfgabagfhnoaa
open Go.RowKit Go.ChangeShapes Go.WideShapes
set_option linter.unusedVariables false
set_option linter.unusedSimpArgs false
set_option maxRecDepth 10000

set_option maxHeartbeats 1000000 in
theorem law_fnew (k0 k1 k2 lo init hi : Int) (w : World) :
    Calls Try.prog 4 #[.agg #[.int .u8 k0, .int .u8 k1, .int .u8 k2, .int .i64 lo, .int .i64 init, .int .i64 hi]] w fun e w' => e = .returned (.bool true) ∧ Below w.heap.size w w' := by
  have H1 := Lib.hid fun w => new_any k0 k1 k2 lo init hi w
  have H2 := Lib.hid fun w => rnew_any k0 k1 k2 lo init hi w
  by_cases h : lo ≤ init ∧ init ≤ hi
  · rw [show newF lo init hi = (⟨lo, hi, init, init, init, init⟩, 0) from if_pos h] at H1 H2
    have HGD : Hid (goodF ⟨lo, hi, init, init, init, init⟩ = true) := Lib.hid ((goodF_iff _).2 ⟨h.1, Int.le_refl _, Int.le_refl _, Int.le_refl _, Int.le_refl _, h.2⟩)
    clear h
    obtain ⟨X, hX⟩ : ∃ X, w.heap.size = X := ⟨_, rfl⟩
    have HY0 := Lib.hid (alloc_block w (.cells #[.int .u8 k0, .int .u8 k1, .int .u8 k2, .int .i64 lo, .int .i64 init, .int .i64 hi] 39))
    have HB : Hid (Below w.heap.size w (w.alloc (.cells #[.int .u8 k0, .int .u8 k1, .int .u8 k2, .int .i64 lo, .int .i64 init, .int .i64 hi] 39))) := Lib.hid ((Below.refl _ _).alloc (Nat.le_refl _) _)
    have HHX := Lib.hid hX
    rw [hX] at HY0
    go_enter Try.func4, Try.ntmps4
    go_wp2_with fail
    clear hX
    generalize w.alloc (.cells #[.int .u8 k0, .int .u8 k1, .int .u8 k2, .int .i64 lo, .int .i64 init, .int .i64 hi] 39) = V0 at *
    refine (H1.out _).mono ?_
    rintro e1 w1 ⟨rfl, hb1⟩
    have hbn : Below w1.heap.size w1 (w1.alloc (.cells #[.int .i64 lo, .int .i64 hi, .int .i64 init, .int .i64 init, .int .i64 init, .int .i64 init] 23)) := (Below.refl _ _).alloc (Nat.le_refl _) _
    replace HY0 := Lib.hid (block_later (block_later HY0.out hb1) hbn)
    have HY1 := Lib.hid (alloc_block w1 (.cells #[.int .i64 lo, .int .i64 hi, .int .i64 init, .int .i64 init, .int .i64 init, .int .i64 init] 23))
    replace HB := Lib.hid (HB.out.trans ((hb1.trans (hbn.mono hb1.size)).mono HB.out.size))
    clear hbn hb1
    obtain ⟨b00, b01, b02, b03, b04, b05⟩ := fcells HY0.out
    go_wp2_with fail
    clear b00 b01 b02 b03 b04 b05
    generalize w1.alloc (.cells #[.int .i64 lo, .int .i64 hi, .int .i64 init, .int .i64 init, .int .i64 init, .int .i64 init] 23) = V1 at *
    generalize w1.heap.size = Y1 at *
    refine (H2.out _).mono ?_
    rintro e2 w2 ⟨rfl, hb2⟩
    have hbn : Below w2.heap.size w2 (w2.alloc (.cells #[.int .i64 lo, .int .i64 hi, .int .i64 init, .int .i64 init, .int .i64 init, .int .i64 init] 23)) := (Below.refl _ _).alloc (Nat.le_refl _) _
    replace HY0 := Lib.hid (block_later (block_later HY0.out hb2) hbn)
    replace HY1 := Lib.hid (block_later (block_later HY1.out hb2) hbn)
    have HY2 := Lib.hid (alloc_block w2 (.cells #[.int .i64 lo, .int .i64 hi, .int .i64 init, .int .i64 init, .int .i64 init, .int .i64 init] 23))
    replace HB := Lib.hid (HB.out.trans ((hb2.trans (hbn.mono hb2.size)).mono HB.out.size))
    clear hbn hb2
    obtain ⟨b10, b11, b12, b13, b14, b15⟩ := fcells HY1.out
    obtain ⟨b20, b21, b22, b23, b24, b25⟩ := fcells HY2.out
    go_upto_region 3 with (fail)
    clear b10 b11 b12 b13 b14 b15
    clear b20 b21 b22 b23 b24 b25
    generalize w2.alloc (.cells #[.int .i64 lo, .int .i64 hi, .int .i64 init, .int .i64 init, .int .i64 init, .int .i64 init] 23) = V2 at *
    generalize w2.heap.size = Y2 at *
    obtain ⟨b10, b11, b12, b13, b14, b15⟩ := fcells HY1.out
    obtain ⟨b20, b21, b22, b23, b24, b25⟩ := fcells HY2.out
    go_wp2_with fail
    refine (fgood_any ⟨lo, hi, init, init, init, init⟩ _).mono ?_
    rw [HGD.out]
    rintro e8 w8 ⟨rfl, hb8⟩
    replace HB := Lib.hid (HB.out.trans (hb8.mono HB.out.size))
    clear hb8 b10 b11 b12 b13 b14 b15 b20 b21 b22 b23 b24 b25
    go_wp2_with fail
    refine (field_works _).mono ?_
    rintro e9 w9 ⟨rfl, hb9⟩
    replace HB := Lib.hid (HB.out.trans (hb9.mono HB.out.size))
    clear hb9
    go_wp2_with fail
    go_ret
    exact ⟨rfl, HB.out⟩
  · rw [show newF lo init hi = (⟨0, 0, 0, 0, 0, 0⟩, 3) from if_neg h] at H1 H2
    clear h
    obtain ⟨X, hX⟩ : ∃ X, w.heap.size = X := ⟨_, rfl⟩
    have HY0 := Lib.hid (alloc_block w (.cells #[.int .u8 k0, .int .u8 k1, .int .u8 k2, .int .i64 lo, .int .i64 init, .int .i64 hi] 39))
    have HB : Hid (Below w.heap.size w (w.alloc (.cells #[.int .u8 k0, .int .u8 k1, .int .u8 k2, .int .i64 lo, .int .i64 init, .int .i64 hi] 39))) := Lib.hid ((Below.refl _ _).alloc (Nat.le_refl _) _)
    have HHX := Lib.hid hX
    rw [hX] at HY0
    go_enter Try.func4, Try.ntmps4
    go_wp2_with fail
    clear hX
    generalize w.alloc (.cells #[.int .u8 k0, .int .u8 k1, .int .u8 k2, .int .i64 lo, .int .i64 init, .int .i64 hi] 39) = V0 at *
    refine (H1.out _).mono ?_
    rintro e1 w1 ⟨rfl, hb1⟩
    have hbn : Below w1.heap.size w1 (w1.alloc (.cells #[.int .i64 0, .int .i64 0, .int .i64 0, .int .i64 0, .int .i64 0, .int .i64 0] 23)) := (Below.refl _ _).alloc (Nat.le_refl _) _
    replace HY0 := Lib.hid (block_later (block_later HY0.out hb1) hbn)
    have HY1 := Lib.hid (alloc_block w1 (.cells #[.int .i64 0, .int .i64 0, .int .i64 0, .int .i64 0, .int .i64 0, .int .i64 0] 23))
    replace HB := Lib.hid (HB.out.trans ((hb1.trans (hbn.mono hb1.size)).mono HB.out.size))
    clear hbn hb1
    obtain ⟨b00, b01, b02, b03, b04, b05⟩ := fcells HY0.out
    go_wp2_with fail
    clear b00 b01 b02 b03 b04 b05
    generalize w1.alloc (.cells #[.int .i64 0, .int .i64 0, .int .i64 0, .int .i64 0, .int .i64 0, .int .i64 0] 23) = V1 at *
    generalize w1.heap.size = Y1 at *
    refine (H2.out _).mono ?_
    rintro e2 w2 ⟨rfl, hb2⟩
    have hbn : Below w2.heap.size w2 (w2.alloc (.cells #[.int .i64 0, .int .i64 0, .int .i64 0, .int .i64 0, .int .i64 0, .int .i64 0] 23)) := (Below.refl _ _).alloc (Nat.le_refl _) _
    replace HY0 := Lib.hid (block_later (block_later HY0.out hb2) hbn)
    replace HY1 := Lib.hid (block_later (block_later HY1.out hb2) hbn)
    have HY2 := Lib.hid (alloc_block w2 (.cells #[.int .i64 0, .int .i64 0, .int .i64 0, .int .i64 0, .int .i64 0, .int .i64 0] 23))
    replace HB := Lib.hid (HB.out.trans ((hb2.trans (hbn.mono hb2.size)).mono HB.out.size))
    clear hbn hb2
    obtain ⟨b10, b11, b12, b13, b14, b15⟩ := fcells HY1.out
    obtain ⟨b20, b21, b22, b23, b24, b25⟩ := fcells HY2.out
    go_upto_region 3 with (fail)
    clear b10 b11 b12 b13 b14 b15
    clear b20 b21 b22 b23 b24 b25
    generalize w2.alloc (.cells #[.int .i64 0, .int .i64 0, .int .i64 0, .int .i64 0, .int .i64 0, .int .i64 0] 23) = V2 at *
    generalize w2.heap.size = Y2 at *
    obtain ⟨b10, b11, b12, b13, b14, b15⟩ := fcells HY1.out
    obtain ⟨b20, b21, b22, b23, b24, b25⟩ := fcells HY2.out
    go_wp2_with fail
    clear b10 b11 b12 b13 b14 b15
    clear b20 b21 b22 b23 b24 b25
    refine (field_works _).mono ?_
    rintro e9 w9 ⟨rfl, hb9⟩
    replace HB := Lib.hid (HB.out.trans (hb9.mono HB.out.size))
    clear hb9
    go_wp2_with fail
    go_ret
    exact ⟨rfl, HB.out⟩
theorem grantF_fok {f : Fv} {d : Int} (hf : Fok f) : Fok (grantF f d) := by
  by_cases h : grantE f d = 0
  · rw [grantF_ok h]; exact (grant_good hf h).2
  · rw [grantF_bad h]; exact hf
set_option maxHeartbeats 2000000 in
theorem law_fturns (f : Fv) (a b : Int) (w : World) (hf : Fok f) (ha : I64 a) (hb : I64 b) :
    Calls Try.prog 6 #[.agg (fcs f), .int .i64 a, .int .i64 b] w fun e w' => e = .returned (.bool true) ∧ Below w.heap.size w w' := by
  have H1 := Lib.hid fun w => grant_any f a w hf ha
  have H2 := Lib.hid fun w => grant_any (grantF f a) b w (grantF_fok hf) hb
  have H3 := Lib.hid fun w => grant_any f b w hf hb
  have H4 := Lib.hid fun w => grant_any (grantF f b) a w (grantF_fok hf) ha
  have HT := Lib.hid (turns_both (f := f) hf ha hb)
  generalize grantE (grantF f a) b = z2 at *
  generalize grantE (grantF f b) a = z4 at *
  generalize grantF (grantF f a) b = y at *
  generalize grantF (grantF f b) a = v at *
  generalize grantE f a = z1 at *
  generalize grantE f b = z3 at *
  generalize grantF f a = x at *
  generalize grantF f b = u at *
  obtain ⟨lo, hi, ba, inf, sup, va⟩ := f
  obtain ⟨x1, x2, x3, x4, x5, x6⟩ := x
  obtain ⟨y1, y2, y3, y4, y5, y6⟩ := y
  obtain ⟨u1, u2, u3, u4, u5, u6⟩ := u
  obtain ⟨v1, v2, v3, v4, v5, v6⟩ := v
  clear hf ha hb
  obtain ⟨X, hX⟩ : ∃ X, w.heap.size = X := ⟨_, rfl⟩
  have HY0 := Lib.hid (alloc_block w (.cells #[.int .i64 lo, .int .i64 hi, .int .i64 ba, .int .i64 inf, .int .i64 sup, .int .i64 va] 23))
  have HB : Hid (Below w.heap.size w (w.alloc (.cells #[.int .i64 lo, .int .i64 hi, .int .i64 ba, .int .i64 inf, .int .i64 sup, .int .i64 va] 23))) := Lib.hid ((Below.refl _ _).alloc (Nat.le_refl _) _)
  have HHX := Lib.hid hX
  rw [hX] at HY0
  go_enter Try.func6, Try.ntmps6
  go_wp2_with fail
  clear hX
  generalize w.alloc (.cells #[.int .i64 lo, .int .i64 hi, .int .i64 ba, .int .i64 inf, .int .i64 sup, .int .i64 va] 23) = V0 at *
  refine (H1.out _).mono ?_
  rintro e1 w1 ⟨rfl, hb1⟩
  have hbn : Below w1.heap.size w1 (w1.alloc (.cells #[.int .i64 x1, .int .i64 x2, .int .i64 x3, .int .i64 x4, .int .i64 x5, .int .i64 x6] 23)) := (Below.refl _ _).alloc (Nat.le_refl _) _
  replace HY0 := Lib.hid (block_later (block_later HY0.out hb1) hbn)
  have HY1 := Lib.hid (alloc_block w1 (.cells #[.int .i64 x1, .int .i64 x2, .int .i64 x3, .int .i64 x4, .int .i64 x5, .int .i64 x6] 23))
  replace HB := Lib.hid (HB.out.trans ((hb1.trans (hbn.mono hb1.size)).mono HB.out.size))
  clear hbn hb1
  obtain ⟨b10, b11, b12, b13, b14, b15⟩ := fcells HY1.out
  go_wp2_with fail
  clear b10 b11 b12 b13 b14 b15
  generalize w1.alloc (.cells #[.int .i64 x1, .int .i64 x2, .int .i64 x3, .int .i64 x4, .int .i64 x5, .int .i64 x6] 23) = V1 at *
  generalize w1.heap.size = Y1 at *
  refine (H2.out _).mono ?_
  rintro e2 w2 ⟨rfl, hb2⟩
  have hbn : Below w2.heap.size w2 (w2.alloc (.cells #[.int .i64 y1, .int .i64 y2, .int .i64 y3, .int .i64 y4, .int .i64 y5, .int .i64 y6] 23)) := (Below.refl _ _).alloc (Nat.le_refl _) _
  replace HY0 := Lib.hid (block_later (block_later HY0.out hb2) hbn)
  replace HY1 := Lib.hid (block_later (block_later HY1.out hb2) hbn)
  have HY2 := Lib.hid (alloc_block w2 (.cells #[.int .i64 y1, .int .i64 y2, .int .i64 y3, .int .i64 y4, .int .i64 y5, .int .i64 y6] 23))
  replace HB := Lib.hid (HB.out.trans ((hb2.trans (hbn.mono hb2.size)).mono HB.out.size))
  clear hbn hb2
  obtain ⟨b00, b01, b02, b03, b04, b05⟩ := fcells HY0.out
  go_wp2_with fail
  clear b00 b01 b02 b03 b04 b05
  generalize w2.alloc (.cells #[.int .i64 y1, .int .i64 y2, .int .i64 y3, .int .i64 y4, .int .i64 y5, .int .i64 y6] 23) = V2 at *
  generalize w2.heap.size = Y2 at *
  refine (H3.out _).mono ?_
  rintro e3 w3 ⟨rfl, hb3⟩
  have hbn : Below w3.heap.size w3 (w3.alloc (.cells #[.int .i64 u1, .int .i64 u2, .int .i64 u3, .int .i64 u4, .int .i64 u5, .int .i64 u6] 23)) := (Below.refl _ _).alloc (Nat.le_refl _) _
  replace HY0 := Lib.hid (block_later (block_later HY0.out hb3) hbn)
  replace HY1 := Lib.hid (block_later (block_later HY1.out hb3) hbn)
  replace HY2 := Lib.hid (block_later (block_later HY2.out hb3) hbn)
  have HY3 := Lib.hid (alloc_block w3 (.cells #[.int .i64 u1, .int .i64 u2, .int .i64 u3, .int .i64 u4, .int .i64 u5, .int .i64 u6] 23))
  replace HB := Lib.hid (HB.out.trans ((hb3.trans (hbn.mono hb3.size)).mono HB.out.size))
  clear hbn hb3
  obtain ⟨b30, b31, b32, b33, b34, b35⟩ := fcells HY3.out
  go_wp2_with fail
  clear b30 b31 b32 b33 b34 b35
  generalize w3.alloc (.cells #[.int .i64 u1, .int .i64 u2, .int .i64 u3, .int .i64 u4, .int .i64 u5, .int .i64 u6] 23) = V3 at *
  generalize w3.heap.size = Y3 at *
  refine (H4.out _).mono ?_
  rintro e4 w4 ⟨rfl, hb4⟩
  have hbn : Below w4.heap.size w4 (w4.alloc (.cells #[.int .i64 v1, .int .i64 v2, .int .i64 v3, .int .i64 v4, .int .i64 v5, .int .i64 v6] 23)) := (Below.refl _ _).alloc (Nat.le_refl _) _
  replace HY0 := Lib.hid (block_later (block_later HY0.out hb4) hbn)
  replace HY1 := Lib.hid (block_later (block_later HY1.out hb4) hbn)
  replace HY2 := Lib.hid (block_later (block_later HY2.out hb4) hbn)
  replace HY3 := Lib.hid (block_later (block_later HY3.out hb4) hbn)
  have HY4 := Lib.hid (alloc_block w4 (.cells #[.int .i64 v1, .int .i64 v2, .int .i64 v3, .int .i64 v4, .int .i64 v5, .int .i64 v6] 23))
  replace HB := Lib.hid (HB.out.trans ((hb4.trans (hbn.mono hb4.size)).mono HB.out.size))
  clear hbn hb4
  go_upto_region 5 with (fail)
  generalize w4.alloc (.cells #[.int .i64 v1, .int .i64 v2, .int .i64 v3, .int .i64 v4, .int .i64 v5, .int .i64 v6] 23) = V4 at *
  generalize w4.heap.size = Y4 at *
  clear H1 H2 H3 H4
  by_cases h : z1 = 0 ∧ z2 = 0
  · have h' := HT.out.1.1 h
    cases HT.out.2 h
    obtain ⟨h1, h2⟩ := h
    obtain ⟨h3, h4⟩ := h'
    subst h1 h2 h3 h4
    clear HT
    obtain ⟨b20, b21, b22, b23, b24, b25⟩ := fcells HY2.out
    obtain ⟨b40, b41, b42, b43, b44, b45⟩ := fcells HY4.out
    go_wp2_with fail
    clear b20 b21 b22 b23 b24 b25
    clear b40 b41 b42 b43 b44 b45
    refine (field_works _).mono ?_
    rintro e9 w9 ⟨rfl, hb9⟩
    replace HB := Lib.hid (HB.out.trans (hb9.mono HB.out.size))
    clear hb9
    go_wp2_with fail
    go_ret
    exact ⟨rfl, HB.out⟩
  · have h' : ¬ (z3 = 0 ∧ z4 = 0) := fun h' => h (HT.out.1.2 h')
    clear HT
    by_cases g_z1 : z1 = 0
    · by_cases g_z3 : z3 = 0
      · have k_z2 : (z2 == 0) = false := by simpa using fun e => h ⟨g_z1, e⟩
        have k_z4 : (z4 == 0) = false := by simpa using fun e => h' ⟨g_z3, e⟩
        subst g_z1
        subst g_z3
        clear h h'
        obtain ⟨b20, b21, b22, b23, b24, b25⟩ := fcells HY2.out
        obtain ⟨b40, b41, b42, b43, b44, b45⟩ := fcells HY4.out
        go_wp2_with fail
        clear b20 b21 b22 b23 b24 b25
        clear b40 b41 b42 b43 b44 b45
        refine (field_works _).mono ?_
        rintro e9 w9 ⟨rfl, hb9⟩
        replace HB := Lib.hid (HB.out.trans (hb9.mono HB.out.size))
        clear hb9
        go_wp2_with fail
        go_ret
        exact ⟨rfl, HB.out⟩
      · have k_z2 : (z2 == 0) = false := by simpa using fun e => h ⟨g_z1, e⟩
        have k_z3 : (z3 == 0) = false := by simpa using g_z3
        subst g_z1
        clear h h' g_z3
        obtain ⟨b20, b21, b22, b23, b24, b25⟩ := fcells HY2.out
        obtain ⟨b40, b41, b42, b43, b44, b45⟩ := fcells HY4.out
        go_wp2_with fail
        clear b20 b21 b22 b23 b24 b25
        clear b40 b41 b42 b43 b44 b45
        refine (field_works _).mono ?_
        rintro e9 w9 ⟨rfl, hb9⟩
        replace HB := Lib.hid (HB.out.trans (hb9.mono HB.out.size))
        clear hb9
        go_wp2_with fail
        go_ret
        exact ⟨rfl, HB.out⟩
    · by_cases g_z3 : z3 = 0
      · have k_z1 : (z1 == 0) = false := by simpa using g_z1
        have k_z4 : (z4 == 0) = false := by simpa using fun e => h' ⟨g_z3, e⟩
        subst g_z3
        clear h h' g_z1
        obtain ⟨b20, b21, b22, b23, b24, b25⟩ := fcells HY2.out
        obtain ⟨b40, b41, b42, b43, b44, b45⟩ := fcells HY4.out
        go_wp2_with fail
        clear b20 b21 b22 b23 b24 b25
        clear b40 b41 b42 b43 b44 b45
        refine (field_works _).mono ?_
        rintro e9 w9 ⟨rfl, hb9⟩
        replace HB := Lib.hid (HB.out.trans (hb9.mono HB.out.size))
        clear hb9
        go_wp2_with fail
        go_ret
        exact ⟨rfl, HB.out⟩
      · have k_z1 : (z1 == 0) = false := by simpa using g_z1
        have k_z3 : (z3 == 0) = false := by simpa using g_z3
        clear h h' g_z1 g_z3
        obtain ⟨b20, b21, b22, b23, b24, b25⟩ := fcells HY2.out
        obtain ⟨b40, b41, b42, b43, b44, b45⟩ := fcells HY4.out
        go_wp2_with fail
        clear b20 b21 b22 b23 b24 b25
        clear b40 b41 b42 b43 b44 b45
        refine (field_works _).mono ?_
        rintro e9 w9 ⟨rfl, hb9⟩
        replace HB := Lib.hid (HB.out.trans (hb9.mono HB.out.size))
        clear hb9
        go_wp2_with fail
        go_ret
        exact ⟨rfl, HB.out⟩
theorem moveF_fok {f : Fv} {d mv mb mn mf : Int} (hf : Fok f) : Fok (moveF f d mv mb mn mf) := by
  unfold moveF
  split
  · rename_i h; exact h.2.1
  · exact hf
set_option maxHeartbeats 2000000 in
theorem law_fundoes (f : Fv) (d : Int) (w : World) (hf : Fok f) (hd : I64 d) :
    Calls Try.prog 5 #[.agg (fcs f), .int .i64 d] w fun e w' => e = .returned (.bool true) ∧ Below w.heap.size w w' := by
  have H1 := Lib.hid fun w => grant_any f d w hf hd
  by_cases h : grantE f d = 0
  · have hu := undoes hf h
    have hk := (grant_good hf h).2
    rw [h, grantF_ok h] at H1
    have H2 := Lib.hid fun w => undo_any (grantG f d) d w hk hd
    have H3 := Lib.hid fun w => back_any (grantG f d) d w hk hd
    have H4 := Lib.hid fun w => forth_any (moveF (grantG f d) d (-1) 0 0 0) d w (moveF_fok hk) hd
    have H5 := Lib.hid fun w => drop_any (moveF (grantG f d) d (-1) 0 0 0) d w (moveF_fok hk) hd
    rw [hu.1.1, show moveF (grantG f d) d (-1) 0 0 (-1) = f from hu.1.2] at H2
    rw [hu.2.1] at H3
    rw [hu.2.2.1.1, hu.2.2.1.2] at H4
    rw [hu.2.2.2.1, hu.2.2.2.2] at H5
    clear hu hk h
    generalize moveF (grantG f d) d (-1) 0 0 0 = b at *
    generalize grantG f d = g at *
    obtain ⟨lo, hi, ba, inf, sup, va⟩ := f
    obtain ⟨g1, g2, g3, g4, g5, g6⟩ := g
    obtain ⟨b1, b2, b3, b4, b5, b6⟩ := b
    clear hf hd
    obtain ⟨X, hX⟩ : ∃ X, w.heap.size = X := ⟨_, rfl⟩
    have HY0 := Lib.hid (alloc_block w (.cells #[.int .i64 lo, .int .i64 hi, .int .i64 ba, .int .i64 inf, .int .i64 sup, .int .i64 va] 23))
    have HB : Hid (Below w.heap.size w (w.alloc (.cells #[.int .i64 lo, .int .i64 hi, .int .i64 ba, .int .i64 inf, .int .i64 sup, .int .i64 va] 23))) := Lib.hid ((Below.refl _ _).alloc (Nat.le_refl _) _)
    have HHX := Lib.hid hX
    rw [hX] at HY0
    go_enter Try.func5, Try.ntmps5
    go_wp2_with fail
    clear hX
    generalize w.alloc (.cells #[.int .i64 lo, .int .i64 hi, .int .i64 ba, .int .i64 inf, .int .i64 sup, .int .i64 va] 23) = V0 at *
    refine (H1.out _).mono ?_
    rintro e1 w1 ⟨rfl, hb1⟩
    have hbn : Below w1.heap.size w1 (w1.alloc (.cells #[.int .i64 g1, .int .i64 g2, .int .i64 g3, .int .i64 g4, .int .i64 g5, .int .i64 g6] 23)) := (Below.refl _ _).alloc (Nat.le_refl _) _
    replace HY0 := Lib.hid (block_later (block_later HY0.out hb1) hbn)
    have HY1 := Lib.hid (alloc_block w1 (.cells #[.int .i64 g1, .int .i64 g2, .int .i64 g3, .int .i64 g4, .int .i64 g5, .int .i64 g6] 23))
    replace HB := Lib.hid (HB.out.trans ((hb1.trans (hbn.mono hb1.size)).mono HB.out.size))
    clear hbn hb1
    obtain ⟨b10, b11, b12, b13, b14, b15⟩ := fcells HY1.out
    go_wp2_with fail
    clear b10 b11 b12 b13 b14 b15
    generalize w1.alloc (.cells #[.int .i64 g1, .int .i64 g2, .int .i64 g3, .int .i64 g4, .int .i64 g5, .int .i64 g6] 23) = V1 at *
    generalize w1.heap.size = Y1 at *
    refine (H2.out _).mono ?_
    rintro e2 w2 ⟨rfl, hb2⟩
    have hbn : Below w2.heap.size w2 (w2.alloc (.cells #[.int .i64 lo, .int .i64 hi, .int .i64 ba, .int .i64 inf, .int .i64 sup, .int .i64 va] 23)) := (Below.refl _ _).alloc (Nat.le_refl _) _
    replace HY0 := Lib.hid (block_later (block_later HY0.out hb2) hbn)
    replace HY1 := Lib.hid (block_later (block_later HY1.out hb2) hbn)
    have HY2 := Lib.hid (alloc_block w2 (.cells #[.int .i64 lo, .int .i64 hi, .int .i64 ba, .int .i64 inf, .int .i64 sup, .int .i64 va] 23))
    replace HB := Lib.hid (HB.out.trans ((hb2.trans (hbn.mono hb2.size)).mono HB.out.size))
    clear hbn hb2
    obtain ⟨b10, b11, b12, b13, b14, b15⟩ := fcells HY1.out
    go_wp2_with fail
    clear b10 b11 b12 b13 b14 b15
    generalize w2.alloc (.cells #[.int .i64 lo, .int .i64 hi, .int .i64 ba, .int .i64 inf, .int .i64 sup, .int .i64 va] 23) = V2 at *
    generalize w2.heap.size = Y2 at *
    refine (H3.out _).mono ?_
    rintro e3 w3 ⟨rfl, hb3⟩
    have hbn : Below w3.heap.size w3 (w3.alloc (.cells #[.int .i64 b1, .int .i64 b2, .int .i64 b3, .int .i64 b4, .int .i64 b5, .int .i64 b6] 23)) := (Below.refl _ _).alloc (Nat.le_refl _) _
    replace HY0 := Lib.hid (block_later (block_later HY0.out hb3) hbn)
    replace HY1 := Lib.hid (block_later (block_later HY1.out hb3) hbn)
    replace HY2 := Lib.hid (block_later (block_later HY2.out hb3) hbn)
    have HY3 := Lib.hid (alloc_block w3 (.cells #[.int .i64 b1, .int .i64 b2, .int .i64 b3, .int .i64 b4, .int .i64 b5, .int .i64 b6] 23))
    replace HB := Lib.hid (HB.out.trans ((hb3.trans (hbn.mono hb3.size)).mono HB.out.size))
    clear hbn hb3
    obtain ⟨b30, b31, b32, b33, b34, b35⟩ := fcells HY3.out
    go_wp2_with fail
    clear b30 b31 b32 b33 b34 b35
    generalize w3.alloc (.cells #[.int .i64 b1, .int .i64 b2, .int .i64 b3, .int .i64 b4, .int .i64 b5, .int .i64 b6] 23) = V3 at *
    generalize w3.heap.size = Y3 at *
    refine (H4.out _).mono ?_
    rintro e4 w4 ⟨rfl, hb4⟩
    have hbn : Below w4.heap.size w4 (w4.alloc (.cells #[.int .i64 g1, .int .i64 g2, .int .i64 g3, .int .i64 g4, .int .i64 g5, .int .i64 g6] 23)) := (Below.refl _ _).alloc (Nat.le_refl _) _
    replace HY0 := Lib.hid (block_later (block_later HY0.out hb4) hbn)
    replace HY1 := Lib.hid (block_later (block_later HY1.out hb4) hbn)
    replace HY2 := Lib.hid (block_later (block_later HY2.out hb4) hbn)
    replace HY3 := Lib.hid (block_later (block_later HY3.out hb4) hbn)
    have HY4 := Lib.hid (alloc_block w4 (.cells #[.int .i64 g1, .int .i64 g2, .int .i64 g3, .int .i64 g4, .int .i64 g5, .int .i64 g6] 23))
    replace HB := Lib.hid (HB.out.trans ((hb4.trans (hbn.mono hb4.size)).mono HB.out.size))
    clear hbn hb4
    obtain ⟨b30, b31, b32, b33, b34, b35⟩ := fcells HY3.out
    go_wp2_with fail
    clear b30 b31 b32 b33 b34 b35
    generalize w4.alloc (.cells #[.int .i64 g1, .int .i64 g2, .int .i64 g3, .int .i64 g4, .int .i64 g5, .int .i64 g6] 23) = V4 at *
    generalize w4.heap.size = Y4 at *
    refine (H5.out _).mono ?_
    rintro e5 w5 ⟨rfl, hb5⟩
    have hbn : Below w5.heap.size w5 (w5.alloc (.cells #[.int .i64 lo, .int .i64 hi, .int .i64 ba, .int .i64 inf, .int .i64 sup, .int .i64 va] 23)) := (Below.refl _ _).alloc (Nat.le_refl _) _
    replace HY0 := Lib.hid (block_later (block_later HY0.out hb5) hbn)
    replace HY1 := Lib.hid (block_later (block_later HY1.out hb5) hbn)
    replace HY2 := Lib.hid (block_later (block_later HY2.out hb5) hbn)
    replace HY3 := Lib.hid (block_later (block_later HY3.out hb5) hbn)
    replace HY4 := Lib.hid (block_later (block_later HY4.out hb5) hbn)
    have HY5 := Lib.hid (alloc_block w5 (.cells #[.int .i64 lo, .int .i64 hi, .int .i64 ba, .int .i64 inf, .int .i64 sup, .int .i64 va] 23))
    replace HB := Lib.hid (HB.out.trans ((hb5.trans (hbn.mono hb5.size)).mono HB.out.size))
    clear hbn hb5
    go_upto_region 8 with (fail)
    generalize w5.alloc (.cells #[.int .i64 lo, .int .i64 hi, .int .i64 ba, .int .i64 inf, .int .i64 sup, .int .i64 va] 23) = V5 at *
    generalize w5.heap.size = Y5 at *
    clear H1 H2 H3 H4 H5
    obtain ⟨b00, b01, b02, b03, b04, b05⟩ := fcells HY0.out
    obtain ⟨b10, b11, b12, b13, b14, b15⟩ := fcells HY1.out
    obtain ⟨b20, b21, b22, b23, b24, b25⟩ := fcells HY2.out
    obtain ⟨b40, b41, b42, b43, b44, b45⟩ := fcells HY4.out
    obtain ⟨b50, b51, b52, b53, b54, b55⟩ := fcells HY5.out
    go_wp2_with fail
    clear b00 b01 b02 b03 b04 b05
    clear b10 b11 b12 b13 b14 b15
    clear b20 b21 b22 b23 b24 b25
    clear b40 b41 b42 b43 b44 b45
    clear b50 b51 b52 b53 b54 b55
    refine (field_works _).mono ?_
    rintro e9 w9 ⟨rfl, hb9⟩
    replace HB := Lib.hid (HB.out.trans (hb9.mono HB.out.size))
    clear hb9
    go_wp2_with fail
    go_ret
    exact ⟨rfl, HB.out⟩
  · have h1 := grantF_bad h
    have hz : (grantE f d != 0) = true := by simpa using h
    rw [h1] at H1
    have HH := Lib.hid h
    clear h h1
    generalize grantE f d = z at *
    obtain ⟨lo, hi, ba, inf, sup, va⟩ := f
    clear hf hd
    obtain ⟨X, hX⟩ : ∃ X, w.heap.size = X := ⟨_, rfl⟩
    have HY0 := Lib.hid (alloc_block w (.cells #[.int .i64 lo, .int .i64 hi, .int .i64 ba, .int .i64 inf, .int .i64 sup, .int .i64 va] 23))
    have HB : Hid (Below w.heap.size w (w.alloc (.cells #[.int .i64 lo, .int .i64 hi, .int .i64 ba, .int .i64 inf, .int .i64 sup, .int .i64 va] 23))) := Lib.hid ((Below.refl _ _).alloc (Nat.le_refl _) _)
    have HHX := Lib.hid hX
    rw [hX] at HY0
    go_enter Try.func5, Try.ntmps5
    go_wp2_with fail
    clear hX
    generalize w.alloc (.cells #[.int .i64 lo, .int .i64 hi, .int .i64 ba, .int .i64 inf, .int .i64 sup, .int .i64 va] 23) = V0 at *
    refine (H1.out _).mono ?_
    rintro e1 w1 ⟨rfl, hb1⟩
    have hbn : Below w1.heap.size w1 (w1.alloc (.cells #[.int .i64 lo, .int .i64 hi, .int .i64 ba, .int .i64 inf, .int .i64 sup, .int .i64 va] 23)) := (Below.refl _ _).alloc (Nat.le_refl _) _
    replace HY0 := Lib.hid (block_later (block_later HY0.out hb1) hbn)
    have HY1 := Lib.hid (alloc_block w1 (.cells #[.int .i64 lo, .int .i64 hi, .int .i64 ba, .int .i64 inf, .int .i64 sup, .int .i64 va] 23))
    replace HB := Lib.hid (HB.out.trans ((hb1.trans (hbn.mono hb1.size)).mono HB.out.size))
    clear hbn hb1
    go_upto_region 3 with (fail)
    generalize w1.alloc (.cells #[.int .i64 lo, .int .i64 hi, .int .i64 ba, .int .i64 inf, .int .i64 sup, .int .i64 va] 23) = V1 at *
    generalize w1.heap.size = Y1 at *
    clear H1
    obtain ⟨b00, b01, b02, b03, b04, b05⟩ := fcells HY0.out
    obtain ⟨b10, b11, b12, b13, b14, b15⟩ := fcells HY1.out
    go_wp2_with fail
    clear b00 b01 b02 b03 b04 b05
    clear b10 b11 b12 b13 b14 b15
    refine (field_works _).mono ?_
    rintro e9 w9 ⟨rfl, hb9⟩
    replace HB := Lib.hid (HB.out.trans (hb9.mono HB.out.size))
    clear hb9
    go_wp2_with fail
    go_ret
    exact ⟨rfl, HB.out⟩
end Go.Proofs.Ytgjfgabagfhnoaa
