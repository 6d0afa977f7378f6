/- Good, the program's and the document's; what is wrong ahead of all else. -/
import Derived.Test.YtgjfgabagfhnoaaFieldKit
namespace Go.Proofs.Ytgjfgabagfhnoaa
open Go.RowKit Go.ChangeShapes Go.WideShapes
set_option linter.unusedVariables false
set_option linter.unusedSimpArgs false
set_option maxRecDepth 10000

/-- A block that holds a field, later. -/
theorem fgood_any (f : Fv) (w : World) :
    Calls Try.prog 13 #[.agg (fcs f)] w fun e w' => e = .returned (.bool (goodF f)) ∧ Below w.heap.size w w' := by
  have hl := lies_any f
  obtain ⟨lo, hi, ba, inf, sup, va⟩ := f
  have HB : Hid (Below w.heap.size w (w.alloc (.cells #[.int .i64 lo, .int .i64 hi, .int .i64 ba, .int .i64 inf, .int .i64 sup, .int .i64 va] 23))) := Lib.hid ((Below.refl _ _).alloc (Nat.le_refl _) _)
  have HX : Hid ((w.alloc (.cells #[.int .i64 lo, .int .i64 hi, .int .i64 ba, .int .i64 inf, .int .i64 sup, .int .i64 va] 23)).heap[w.heap.size]? = some (.cells #[.int .i64 lo, .int .i64 hi, .int .i64 ba, .int .i64 inf, .int .i64 sup, .int .i64 va] 23 (0, 0))) := Lib.hid (alloc_block _ _)
  by_cases h1 : lo ≤ inf
  · by_cases h2 : inf ≤ ba ∧ ba ≤ sup
    · have d1 := decide_eq_true h2
      by_cases h3 : inf ≤ va ∧ va ≤ sup
      · have d2 := decide_eq_true h3
        rw [show goodF ⟨lo, hi, ba, inf, sup, va⟩ = decide (sup ≤ hi) by (simp [goodF, h1, h2, h3])]
        go_enter Try.func13, Try.ntmps13
        go_wp2_with fail
        refine (hl ba _).mono ?_
        rintro e w2 ⟨rfl, hb⟩
        rw [show decide (inf ≤ ba ∧ ba ≤ sup) = true from d1]
        have HX2 := Lib.hid (block_later HX.out hb)
        have HB2 := Lib.hid (HB.out.trans (hb.mono HB.out.size))
        obtain ⟨q0, q1, q2, q3, q4, q5⟩ := fcells HX2.out
        clear hb
        go_wp2_with fail
        clear q0 q1 q2 q3 q4 q5
        refine (hl va _).mono ?_
        rintro e w3 ⟨rfl, hb⟩
        rw [show decide (inf ≤ va ∧ va ≤ sup) = true from d2]
        have HX3 := Lib.hid (block_later HX2.out hb)
        have HB3 := Lib.hid (HB2.out.trans (hb.mono HB2.out.size))
        obtain ⟨q0, q1, q2, q3, q4, q5⟩ := fcells HX3.out
        clear hb
        go_wp2_with fail
        go_ret
        exact ⟨rfl, HB3.out⟩
      · have d2 := decide_eq_false h3
        rw [show goodF ⟨lo, hi, ba, inf, sup, va⟩ = false by (simp [goodF]; omega)]
        go_enter Try.func13, Try.ntmps13
        go_wp2_with fail
        refine (hl ba _).mono ?_
        rintro e w2 ⟨rfl, hb⟩
        rw [show decide (inf ≤ ba ∧ ba ≤ sup) = true from d1]
        have HX2 := Lib.hid (block_later HX.out hb)
        have HB2 := Lib.hid (HB.out.trans (hb.mono HB.out.size))
        obtain ⟨q0, q1, q2, q3, q4, q5⟩ := fcells HX2.out
        clear hb
        go_wp2_with fail
        clear q0 q1 q2 q3 q4 q5
        refine (hl va _).mono ?_
        rintro e w3 ⟨rfl, hb⟩
        rw [show decide (inf ≤ va ∧ va ≤ sup) = false from d2]
        have HX3 := Lib.hid (block_later HX2.out hb)
        have HB3 := Lib.hid (HB2.out.trans (hb.mono HB2.out.size))
        obtain ⟨q0, q1, q2, q3, q4, q5⟩ := fcells HX3.out
        clear hb
        go_wp2_with fail
        go_ret
        exact ⟨rfl, HB3.out⟩
    · have d1 := decide_eq_false h2
      rw [show goodF ⟨lo, hi, ba, inf, sup, va⟩ = false by (simp [goodF]; omega)]
      go_enter Try.func13, Try.ntmps13
      go_wp2_with fail
      refine (hl ba _).mono ?_
      rintro e w2 ⟨rfl, hb⟩
      rw [show decide (inf ≤ ba ∧ ba ≤ sup) = false from d1]
      have HX2 := Lib.hid (block_later HX.out hb)
      have HB2 := Lib.hid (HB.out.trans (hb.mono HB.out.size))
      obtain ⟨q0, q1, q2, q3, q4, q5⟩ := fcells HX2.out
      clear hb
      go_wp2_with fail
      go_ret
      exact ⟨rfl, HB2.out⟩
  · rw [show goodF ⟨lo, hi, ba, inf, sup, va⟩ = false by (simp [goodF, h1])]
    go_enter Try.func13, Try.ntmps13
    go_wp2_with fail
    go_ret
    exact ⟨rfl, HB.out⟩
theorem rgood_any (f : Fv) (w : World) :
    Calls Try.prog 14 #[.agg (fcs f)] w fun e w' => e = .returned (.bool (goodF f)) ∧ Below w.heap.size w w' := by
  obtain ⟨lo, hi, ba, inf, sup, va⟩ := f
  have HB : Hid (Below w.heap.size w (w.alloc (.cells #[.int .i64 lo, .int .i64 hi, .int .i64 ba, .int .i64 inf, .int .i64 sup, .int .i64 va] 23))) := Lib.hid ((Below.refl _ _).alloc (Nat.le_refl _) _)
  by_cases g0 : lo ≤ inf
  · by_cases g1 : inf ≤ ba
    · by_cases g2 : inf ≤ va
      · by_cases g3 : ba ≤ sup
        · by_cases g4 : va ≤ sup
          · by_cases g5 : sup ≤ hi
            · rw [show goodF ⟨lo, hi, ba, inf, sup, va⟩ = true by (simp [goodF, g0, g1, g2, g3, g4, g5])]
              go_enter Try.func14, Try.ntmps14
              go_wp2_with fail
              go_ret
              exact ⟨rfl, HB.out⟩
            · rw [show goodF ⟨lo, hi, ba, inf, sup, va⟩ = false by (simp [goodF, g5])]
              go_enter Try.func14, Try.ntmps14
              go_wp2_with fail
              go_ret
              exact ⟨rfl, HB.out⟩
          · rw [show goodF ⟨lo, hi, ba, inf, sup, va⟩ = false by (simp [goodF, g4])]
            go_enter Try.func14, Try.ntmps14
            go_wp2_with fail
            go_ret
            exact ⟨rfl, HB.out⟩
        · rw [show goodF ⟨lo, hi, ba, inf, sup, va⟩ = false by (simp [goodF, g3])]
          go_enter Try.func14, Try.ntmps14
          go_wp2_with fail
          go_ret
          exact ⟨rfl, HB.out⟩
      · rw [show goodF ⟨lo, hi, ba, inf, sup, va⟩ = false by (simp [goodF, g2])]
        go_enter Try.func14, Try.ntmps14
        go_wp2_with fail
        go_ret
        exact ⟨rfl, HB.out⟩
    · rw [show goodF ⟨lo, hi, ba, inf, sup, va⟩ = false by (simp [goodF, g1])]
      go_enter Try.func14, Try.ntmps14
      go_wp2_with fail
      go_ret
      exact ⟨rfl, HB.out⟩
  · rw [show goodF ⟨lo, hi, ba, inf, sup, va⟩ = false by (simp [goodF, g0])]
    go_enter Try.func14, Try.ntmps14
    go_wp2_with fail
    go_ret
    exact ⟨rfl, HB.out⟩
theorem firstF_good {f : Fv} {d : Int} (h : goodF f = true) : firstF f d = if d = 0 ∨ d = -9223372036854775808 then 1 else 0 := if_pos h
theorem firstF_bad {f : Fv} {d : Int} (h : goodF f = false) : firstF f d = 12 := if_neg (by rw [h]; decide)
theorem wrong_any (f : Fv) (d : Int) (w : World) (hd : I64 d) :
    Calls Try.prog 30 #[.agg (fcs f), .int .i64 d] w fun e w' => e = .returned (.int .i64 (firstF f d)) ∧ Below w.heap.size w w' := by
  have hg := fgood_any f
  obtain ⟨hd0, hd1⟩ := hd
  have HE : Hid (∀ b, goodF f = b → firstF f d = if b = true then (if d = 0 ∨ d = -9223372036854775808 then 1 else 0) else 12) := Lib.hid (by intro b hb; subst hb; rfl)
  generalize goodF f = b at *
  generalize firstF f d = z at *
  obtain ⟨lo, hi, ba, inf, sup, va⟩ := f
  have HB : Hid (Below w.heap.size w (w.alloc (.cells #[.int .i64 lo, .int .i64 hi, .int .i64 ba, .int .i64 inf, .int .i64 sup, .int .i64 va] 23))) := Lib.hid ((Below.refl _ _).alloc (Nat.le_refl _) _)
  have HE1 := Lib.hid (HE.out b rfl)
  clear HE
  cases b with
  | false =>
    have he : z = 12 := HE1.out
    subst he
    clear HE1
    go_enter Try.func30, Try.ntmps30
    go_wp2_with fail
    refine (hg _).mono ?_
    rintro e w2 ⟨rfl, hb⟩
    have HB2 := Lib.hid (HB.out.trans (hb.mono HB.out.size))
    clear hb
    go_wp2_with fail
    go_ret
    exact ⟨rfl, HB2.out⟩
  | true =>
    by_cases z0 : d = 0
    · have he : z = 1 := HE1.out.trans ((if_pos rfl).trans (if_pos (Or.inl z0)))
      subst he
      subst z0
      clear HE1
      go_enter Try.func30, Try.ntmps30
      go_wp2_with fail
      refine (hg _).mono ?_
      rintro e w2 ⟨rfl, hb⟩
      have HB2 := Lib.hid (HB.out.trans (hb.mono HB.out.size))
      clear hb
      go_wp2_with fail
      go_ret
      exact ⟨rfl, HB2.out⟩
    · have s1 : (d == 0) = false := by simpa using z0
      by_cases zm : d = -9223372036854775808
      · have he : z = 1 := HE1.out.trans ((if_pos rfl).trans (if_pos (Or.inr zm)))
        subst he
        subst zm
        clear HE1
        go_enter Try.func30, Try.ntmps30
        go_wp2_with fail
        refine (hg _).mono ?_
        rintro e w2 ⟨rfl, hb⟩
        have HB2 := Lib.hid (HB.out.trans (hb.mono HB.out.size))
        clear hb
        go_wp2_with fail
        go_ret
        exact ⟨rfl, HB2.out⟩
      · have s2 : (d == -9223372036854775808) = false := by simpa using zm
        have s3 : ¬ d < -9223372036854775807 := by omega
        have he : z = 0 := HE1.out.trans ((if_pos rfl).trans (if_neg (by omega)))
        subst he
        have ZO := Lib.hid z0
        have ZM := Lib.hid zm
        clear HE1 z0 zm
        go_enter Try.func30, Try.ntmps30
        go_wp2_with fail
        refine (hg _).mono ?_
        rintro e w2 ⟨rfl, hb⟩
        have HB2 := Lib.hid (HB.out.trans (hb.mono HB.out.size))
        clear hb
        go_wp2_with fail
        go_ret
        exact ⟨rfl, HB2.out⟩
theorem rfirst_any (f : Fv) (d : Int) (w : World) (hd : I64 d) :
    Calls Try.prog 26 #[.agg (fcs f), .int .i64 d] w fun e w' => e = .returned (.int .i64 (firstF f d)) ∧ Below w.heap.size w w' := by
  have hg := rgood_any f
  obtain ⟨hd0, hd1⟩ := hd
  have HE : Hid (∀ b, goodF f = b → firstF f d = if b = true then (if d = 0 ∨ d = -9223372036854775808 then 1 else 0) else 12) := Lib.hid (by intro b hb; subst hb; rfl)
  generalize goodF f = b at *
  generalize firstF f d = z at *
  obtain ⟨lo, hi, ba, inf, sup, va⟩ := f
  have HB : Hid (Below w.heap.size w (w.alloc (.cells #[.int .i64 lo, .int .i64 hi, .int .i64 ba, .int .i64 inf, .int .i64 sup, .int .i64 va] 23))) := Lib.hid ((Below.refl _ _).alloc (Nat.le_refl _) _)
  have HE1 := Lib.hid (HE.out b rfl)
  clear HE
  cases b with
  | false =>
    have he : z = 12 := HE1.out
    subst he
    clear HE1
    go_enter Try.func26, Try.ntmps26
    go_wp2_with fail
    refine (hg _).mono ?_
    rintro e w2 ⟨rfl, hb⟩
    have HB2 := Lib.hid (HB.out.trans (hb.mono HB.out.size))
    clear hb
    go_wp2_with fail
    go_ret
    exact ⟨rfl, HB2.out⟩
  | true =>
    by_cases z0 : d = 0
    · have he : z = 1 := HE1.out.trans ((if_pos rfl).trans (if_pos (Or.inl z0)))
      subst he
      subst z0
      clear HE1
      go_enter Try.func26, Try.ntmps26
      go_wp2_with fail
      refine (hg _).mono ?_
      rintro e w2 ⟨rfl, hb⟩
      have HB2 := Lib.hid (HB.out.trans (hb.mono HB.out.size))
      clear hb
      go_wp2_with fail
      go_ret
      exact ⟨rfl, HB2.out⟩
    · have s1 : (d == 0) = false := by simpa using z0
      by_cases zm : d = -9223372036854775808
      · have he : z = 1 := HE1.out.trans ((if_pos rfl).trans (if_pos (Or.inr zm)))
        subst he
        subst zm
        clear HE1
        go_enter Try.func26, Try.ntmps26
        go_wp2_with fail
        refine (hg _).mono ?_
        rintro e w2 ⟨rfl, hb⟩
        have HB2 := Lib.hid (HB.out.trans (hb.mono HB.out.size))
        clear hb
        go_wp2_with fail
        go_ret
        exact ⟨rfl, HB2.out⟩
      · have s2 : (d == -9223372036854775808) = false := by simpa using zm
        have s3 : ¬ d < -9223372036854775807 := by omega
        have he : z = 0 := HE1.out.trans ((if_pos rfl).trans (if_neg (by omega)))
        subst he
        have ZO := Lib.hid z0
        have ZM := Lib.hid zm
        clear HE1 z0 zm
        go_enter Try.func26, Try.ntmps26
        go_wp2_with fail
        refine (hg _).mono ?_
        rintro e w2 ⟨rfl, hb⟩
        have HB2 := Lib.hid (HB.out.trans (hb.mono HB.out.size))
        clear hb
        go_wp2_with fail
        go_ret
        exact ⟨rfl, HB2.out⟩
end Go.Proofs.Ytgjfgabagfhnoaa
