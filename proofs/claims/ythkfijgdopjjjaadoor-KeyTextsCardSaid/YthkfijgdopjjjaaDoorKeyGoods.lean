/- Good, Place: whether there is a key, and where it stands. -/
import Derived.Test.YthkfijgdopjjjaaDoorKeyLeaf
import Derived.Deep.QuietTactic
import Derived.BigQuiet
namespace Go.Proofs.YthkfijgdopjjjaaDoor
open Go.RowKit Go.ChangeShapes Go.WideShapes
set_option linter.unusedVariables false

theorem good_any (s w a b c : Int) (hb : 0 ≤ b ∧ b ≤ 255) (hc : 0 ≤ c ∧ c ≤ 255) (W : World) :
    Calls Tryd.prog 11 #[.int .i64 s, .int .i64 w, .agg #[.int .u8 a, .int .u8 b, .int .u8 c]] W fun e w' => e = .returned (.bool (goodB s w a b c)) ∧ Gr W w' := by
  obtain ⟨hb0, hb1⟩ := hb
  obtain ⟨hc0, hc1⟩ := hc
  have hz := fun W => sized_any s w W
  have hx := fun W => width_any a w W
  cases h1 : sizedB s w with
  | false =>
    have hF : goodB s w a b c = false := by simp [goodB, h1]
    rw [hF]
    rw [h1] at hz
    clear hF h1
    go_enter Tryd.func11, Tryd.ntmps11
    go_wp2_with fail
    have HG := Lib.hid ((Gr.refl W).alloc (.cells #[.int .u8 a, .int .u8 b, .int .u8 c] 23))
    have e0 : (W.alloc (.cells #[.int .u8 a, .int .u8 b, .int .u8 c] 23)).cell? ⟨W.heap.size, 0, none⟩ = some (.int .u8 a) := by simp
    have e1 : (W.alloc (.cells #[.int .u8 a, .int .u8 b, .int .u8 c] 23)).cell? ⟨W.heap.size, 1, none⟩ = some (.int .u8 b) := by simp
    have e2 : (W.alloc (.cells #[.int .u8 a, .int .u8 b, .int .u8 c] 23)).cell? ⟨W.heap.size, 2, none⟩ = some (.int .u8 c) := by simp
    generalize W.alloc (.cells #[.int .u8 a, .int .u8 b, .int .u8 c] 23) = W1 at *
    generalize W.heap.size = X at *
    go_quiet (first
      | (go_at_call 27; exact Calls.quiet_of_same (hz _)))
    go_wp2_with fail
    go_ret
    exact ⟨rfl, HG.out.drewN _⟩
  | true =>
    rw [h1] at hz
    by_cases h2 : b < s
    · have hF : goodB s w a b c = decide (c < widthI a w) := by simp [goodB, h1, h2]
      rw [hF]
      clear hF h1
      generalize widthI a w = x at *
      go_enter Tryd.func11, Tryd.ntmps11
      go_wp2_with fail
      have HG := Lib.hid ((Gr.refl W).alloc (.cells #[.int .u8 a, .int .u8 b, .int .u8 c] 23))
      have e0 : (W.alloc (.cells #[.int .u8 a, .int .u8 b, .int .u8 c] 23)).cell? ⟨W.heap.size, 0, none⟩ = some (.int .u8 a) := by simp
      have e1 : (W.alloc (.cells #[.int .u8 a, .int .u8 b, .int .u8 c] 23)).cell? ⟨W.heap.size, 1, none⟩ = some (.int .u8 b) := by simp
      have e2 : (W.alloc (.cells #[.int .u8 a, .int .u8 b, .int .u8 c] 23)).cell? ⟨W.heap.size, 2, none⟩ = some (.int .u8 c) := by simp
      generalize W.alloc (.cells #[.int .u8 a, .int .u8 b, .int .u8 c] 23) = W1 at *
      generalize W.heap.size = X at *
      go_quiet (first
        | (go_at_call 27; exact Calls.quiet_of_same (hz _))
        | (go_at_call 26; exact Calls.quiet_of_same (hx _)))
      go_wp2_with fail
      go_ret
      exact ⟨rfl, HG.out.drewN _⟩
    · have hF : goodB s w a b c = false := by simp [goodB, h2]
      rw [hF]
      clear hF h1
      have h2' : decide (b < s) = false := by simpa using h2
      go_enter Tryd.func11, Tryd.ntmps11
      go_wp2_with fail
      have HG := Lib.hid ((Gr.refl W).alloc (.cells #[.int .u8 a, .int .u8 b, .int .u8 c] 23))
      have e0 : (W.alloc (.cells #[.int .u8 a, .int .u8 b, .int .u8 c] 23)).cell? ⟨W.heap.size, 0, none⟩ = some (.int .u8 a) := by simp
      have e1 : (W.alloc (.cells #[.int .u8 a, .int .u8 b, .int .u8 c] 23)).cell? ⟨W.heap.size, 1, none⟩ = some (.int .u8 b) := by simp
      have e2 : (W.alloc (.cells #[.int .u8 a, .int .u8 b, .int .u8 c] 23)).cell? ⟨W.heap.size, 2, none⟩ = some (.int .u8 c) := by simp
      generalize W.alloc (.cells #[.int .u8 a, .int .u8 b, .int .u8 c] 23) = W1 at *
      generalize W.heap.size = X at *
      go_quiet (first
        | (go_at_call 27; exact Calls.quiet_of_same (hz _)))
      go_wp2_with fail
      go_ret
      exact ⟨rfl, HG.out.drewN _⟩

theorem place_any (s w a b c : Int) (ha : 0 ≤ a ∧ a ≤ 255) (hb : 0 ≤ b ∧ b ≤ 255) (hc : 0 ≤ c ∧ c ≤ 255) (W : World) :
    Calls Tryd.prog 9 #[.int .i64 s, .int .i64 w, .agg #[.int .u8 a, .int .u8 b, .int .u8 c]] W fun e w' => e = .returned (.tuple #[.int .i64 (if goodB s w a b c then placeI s w (a, b, c) else 0), .bool (goodB s w a b c)]) ∧ Gr W w' := by
  have hg := fun W => good_any s w a b c hb hc W
  cases h1 : goodB s w a b c with
  | false =>
    rw [h1] at hg
    go_enter Tryd.func9, Tryd.ntmps9
    go_wp2_with fail
    refine (hg _).mono ?_
    rintro e w' ⟨rfl, h⟩
    have HG := Lib.hid (((Gr.refl W).alloc _).trans h)
    clear h
    go_wp2_with fail
    go_ret2
    exact ⟨rfl, HG.out⟩
  | true =>
    rw [h1] at hg
    obtain ⟨ha0, ha1⟩ := ha
    obtain ⟨hb0, hb1⟩ := hb
    obtain ⟨hc0, hc1⟩ := hc
    have hz : sizedB s w = true ∧ b < s ∧ c < widthI a w := by simpa [goodB, and_assoc] using h1
    obtain ⟨hz, hbs, hcw⟩ := hz
    simp only [sizedB, Bool.and_eq_true, decide_eq_true_eq] at hz
    have hwb := width_bounds a w (by omega) (by omega)
    have ha4 : 1 ≤ a ∧ a ≤ 4 := by
      unfold widthI at hcw
      repeat' split at hcw
      all_goals omega
    obtain ⟨k, rfl⟩ : ∃ k : Nat, a = (k : Int) := ⟨a.toNat, by omega⟩
    have hbl := fun W => below_any s w k (by omega) (by omega) (by omega) (by omega) (by omega) (by omega) W
    have hbb := below_bounds s w (by omega) (by omega) (by omega) (by omega) k
    have hx := fun W => width_any (k : Int) w W
    have hm := mul_bounds b _ (by omega) (by omega) hwb.1 hwb.2
    have hP : placeI s w ((k : Int), b, c) = belowI s w k + b * widthI k w + c := rfl
    rw [hP]
    clear hP h1 hz hbs
    generalize belowI s w k = n at *
    generalize widthI (k : Int) w = x at *
    obtain ⟨hm0, hm1⟩ := hm
    obtain ⟨hn0, hn1⟩ := hbb
    have hn2 : n ≤ 64 := by omega
    clear hn1
    go_enter Tryd.func9, Tryd.ntmps9
    go_wp2_with fail
    have e0 : ∀ o, (W.alloc (.cells #[.int .u8 (k : Int), .int .u8 b, .int .u8 c] o)).cell? ⟨W.heap.size, 0, none⟩ = some (.int .u8 (k : Int)) := fun o => by simp
    have e1 : ∀ o, (W.alloc (.cells #[.int .u8 (k : Int), .int .u8 b, .int .u8 c] o)).cell? ⟨W.heap.size, 1, none⟩ = some (.int .u8 b) := fun o => by simp
    have e2 : ∀ o, (W.alloc (.cells #[.int .u8 (k : Int), .int .u8 b, .int .u8 c] o)).cell? ⟨W.heap.size, 2, none⟩ = some (.int .u8 c) := fun o => by simp
    refine (hg _).mono ?_
    rintro e W1 ⟨rfl, h⟩
    have HG := Lib.hid (((Gr.refl W).alloc _).trans h)
    have g0 := (h.below.cell (p := ⟨W.heap.size, 0, none⟩) (by simp)).trans (e0 _)
    have g1 := (h.below.cell (p := ⟨W.heap.size, 1, none⟩) (by simp)).trans (e1 _)
    have g2 := (h.below.cell (p := ⟨W.heap.size, 2, none⟩) (by simp)).trans (e2 _)
    clear h e0 e1 e2 hg
    generalize W.heap.size = X at *
    go_wp2_with fail
    go_quiet (first
      | (go_at_call 25; exact Calls.quiet_of_same (hbl _))
      | (go_at_call 26; exact Calls.quiet_of_same (hx _)))
    go_wp2_with fail
    go_ret2
    exact ⟨rfl, HG.out.drewN _⟩
end Go.Proofs.YthkfijgdopjjjaaDoor
