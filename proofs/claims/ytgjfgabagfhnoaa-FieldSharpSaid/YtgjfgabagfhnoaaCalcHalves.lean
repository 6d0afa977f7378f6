/- The document's own halves of a number. -/
import Derived.Test.YtgjfgabagfhnoaaCalcSum
namespace Go.Proofs.Ytgjfgabagfhnoaa
open Go.RowKit
set_option linter.unusedVariables false
set_option maxRecDepth 10000

/-- A block of two cells that was laid ahead of a call that writes nothing old. -/
theorem two_cells {w w' : World} {c0 c1 : Value} {T : TypeId} (h : Below (w.alloc (.cells #[c0, c1] T)).heap.size (w.alloc (.cells #[c0, c1] T)) w') :
    w'.cell? ⟨w.heap.size, 0, none⟩ = some c0 ∧ w'.cell? ⟨w.heap.size, 1, none⟩ = some c1 ∧ w'.frozen? ⟨w.heap.size, 0, none⟩ = false ∧ w'.frozen? ⟨w.heap.size, 1, none⟩ = false ∧ w.heap.size < w'.heap.size := by
  refine ⟨?_, ?_, ?_, ?_, ?_⟩
  · rw [h.cell (p := ⟨w.heap.size, 0, none⟩) (by simp)]; simp
  · rw [h.cell (p := ⟨w.heap.size, 1, none⟩) (by simp)]; simp
  · rw [h.frozen (p := ⟨w.heap.size, 0, none⟩) (by simp)]; simp
  · rw [h.frozen (p := ⟨w.heap.size, 1, none⟩) (by simp)]; simp
  · have := h.size; simp at this; omega

/-- The upper and the lower half. -/
def hiH (a : Int) : Int := a / 4294967296
def loH (a : Int) : Int := a % 4294967296
theorem halves_bd (a : Int) (h0 : -9223372036854775808 ≤ a) (h1 : a ≤ 9223372036854775807) : -2147483648 ≤ hiH a ∧ hiH a ≤ 2147483647 ∧ 0 ≤ loH a ∧ loH a ≤ 4294967295 := by unfold hiH loH; omega
theorem halves_up (a : Int) : -1 - hiH (-(a + 1)) = hiH a ∧ 4294967295 - loH (-(a + 1)) = loH a := by unfold hiH loH; omega

theorem halves_pos (a : Int) (w : World) (h0 : 0 ≤ a) (h1 : a ≤ 9223372036854775807) :
    Calls Try.prog 42 #[.int .i64 a] w fun e w' => e = .returned (.agg #[.int .i64 (hiH a), .int .i64 (loH a)]) ∧ Below w.heap.size w w' := by
  have hn : ¬ a < 0 := by omega
  go_enter Try.func42, Try.ntmps42
  go_wp2
  exact bodyPost_ret (v := .agg #[.int .i64 (hiH a), .int .i64 (loH a)]) (by simp [results, Try.results42, go_sem, hiH, loH]) rfl ⟨rfl, (Below.refl _ _).alloc (Nat.le_refl _) _⟩

theorem halves_any (a : Int) (w : World) (h0 : -9223372036854775808 ≤ a) (h1 : a ≤ 9223372036854775807) :
    Calls Try.prog 42 #[.int .i64 a] w fun e w' => e = .returned (.agg #[.int .i64 (hiH a), .int .i64 (loH a)]) ∧ Below w.heap.size w w' := by
  by_cases hn : a < 0
  · have hm0 : 0 ≤ -(a + 1) := by omega
    have hb := halves_bd (-(a + 1)) (by omega) (by omega)
    obtain ⟨hb0, hb1, hb2, hb3⟩ := hb
    have HU := Lib.hid (halves_up a)
    go_enter Try.func42, Try.ntmps42
    go_wp2_with fail
    refine (halves_pos _ _ (by omega) (by omega)).mono ?_
    rintro e w' ⟨rfl, hbel⟩
    obtain ⟨hc0, hc1, hf0, hf1, hsz⟩ := two_cells hbel
    have HB := Lib.hid hbel
    clear hbel
    go_wp2_with fail
    refine bodyPost_ret (v := .agg #[.int .i64 (hiH a), .int .i64 (loH a)]) ?_ rfl ⟨rfl, ?_⟩
    · simp [results, Try.results42, go_sem, hc0, hc1, hsz, HU.out.1, HU.out.2]
    · exact ((((((Below.refl _ _).alloc (Nat.le_refl _) _).trans (HB.out.mono (by simp))).setCell (by simp) _).setCell (by simp) _)).alloc (by simp [World.setCell]; omega) _
  · exact halves_pos a w (by omega) h1
end Go.Proofs.Ytgjfgabagfhnoaa
