/- The smallest calls of layer conf. -/
import Derived.Test.YthkeefdapnkgeaaKeyRefs
import Derived.Deep.RegionWith
import Derived.RegionTactic
namespace Go.Proofs.Ythkeefdapnkgeaa
open Go.RowKit Go.ChangeShapes Go.WideShapes
set_option linter.unusedVariables false
set_option linter.unusedSimpArgs false

/-- x, kept from lo to hi. -/
def keptI (x lo hi : Int) : Int := if x < lo then (if hi < lo then hi else lo) else if hi < x then hi else x
theorem kept_any (x lo hi : Int) (W : World) : Calls Try.prog 17 #[.int .i64 x, .int .i64 lo, .int .i64 hi] W fun e w' => e = .returned (.int .i64 (keptI x lo hi)) ∧ w' = W := by
  by_cases h1 : x < lo
  · by_cases h2 : hi < lo
    · have hF : keptI x lo hi = hi := by
        unfold keptI
        repeat' split
        all_goals omega
      rw [hF]
      clear hF
      go_enter Try.func17, Try.ntmps17
      go_wp2_with fail
      go_ret
      exact ⟨rfl, rfl⟩
    · have hF : keptI x lo hi = lo := by
        unfold keptI
        repeat' split
        all_goals omega
      rw [hF]
      clear hF
      go_enter Try.func17, Try.ntmps17
      go_wp2_with fail
      go_ret
      exact ⟨rfl, rfl⟩
  · by_cases h2 : hi < x
    · have hF : keptI x lo hi = hi := by
        unfold keptI
        repeat' split
        all_goals omega
      rw [hF]
      clear hF
      go_enter Try.func17, Try.ntmps17
      go_wp2_with fail
      go_ret
      exact ⟨rfl, rfl⟩
    · have hF : keptI x lo hi = x := by
        unfold keptI
        repeat' split
        all_goals omega
      rw [hF]
      clear hF
      go_enter Try.func17, Try.ntmps17
      go_wp2_with fail
      go_ret
      exact ⟨rfl, rfl⟩
theorem within_any (x lo hi : Int) (W : World) : Calls Try.prog 33 #[.int .i64 x, .int .i64 lo, .int .i64 hi] W fun e w' => e = .returned (.bool (x == keptI x lo hi)) ∧ w' = W := by
  go_enter Try.func33, Try.ntmps33
  go_wp2_with fail
  refine (kept_any _ _ _ _).mono ?_
  rintro e w' ⟨rfl, rfl⟩
  go_wp2_with fail
  go_ret
  exact ⟨rfl, rfl⟩
def mostI (s o : Int) : Int := 12 + 343 * keptI s 0 8 + 318 * keptI o 0 32
theorem kept_bounds (x lo hi : Int) (h : lo ≤ hi) : lo ≤ keptI x lo hi ∧ keptI x lo hi ≤ hi := by
  unfold keptI
  repeat' split
  all_goals omega
theorem most_any (s o : Int) (W : World) : Calls Try.prog 7 #[.int .i64 s, .int .i64 o] W fun e w' => e = .returned (.int .i64 (mostI s o)) ∧ w' = W := by
  have h1 := kept_bounds s 0 8 (by omega)
  have h2 := kept_bounds o 0 32 (by omega)
  have k1 := fun W => kept_any s 0 8 W
  have k2 := fun W => kept_any o 0 32 W
  have hF : mostI s o = 12 + 343 * keptI s 0 8 + 318 * keptI o 0 32 := rfl
  rw [hF]
  clear hF
  generalize keptI s 0 8 = x at *
  generalize keptI o 0 32 = y at *
  obtain ⟨h1, h3⟩ := h1
  obtain ⟨h2, h4⟩ := h2
  go_enter Try.func7, Try.ntmps7
  go_wp2_with fail
  refine (k1 _).mono ?_
  rintro e w' ⟨rfl, rfl⟩
  go_wp2_with fail
  refine (k2 _).mono ?_
  rintro e w' ⟨rfl, rfl⟩
  go_wp2_with fail
  go_ret
  exact ⟨rfl, rfl⟩
theorem between_any (x lo hi : Int) (h : lo ≤ hi) (W : World) : Calls Try.prog 18 #[.int .i64 x, .int .i64 lo, .int .i64 hi] W fun e w' => e = .returned (.int .i64 (keptI x lo hi)) ∧ w' = W := by
  have hF : keptI x lo hi = if x < lo then lo else if hi < x then hi else x := by
    unfold keptI
    repeat' split
    all_goals omega
  rw [hF]
  clear hF
  by_cases h1 : x < lo
  · go_enter Try.func18, Try.ntmps18
    go_wp2_with fail
    go_ret
    exact ⟨by simp [h1], rfl⟩
  · by_cases h2 : hi < x
    · go_enter Try.func18, Try.ntmps18
      go_wp2_with fail
      go_ret
      exact ⟨by simp [h1, h2], rfl⟩
    · go_enter Try.func18, Try.ntmps18
      go_wp2_with fail
      go_ret
      exact ⟨by simp [h1, h2], rfl⟩
theorem refmost_any (s o : Int) (W : World) : Calls Try.prog 8 #[.int .i64 s, .int .i64 o] W fun e w' => e = .returned (.int .i64 (mostI s o)) ∧ w' = W := by
  have h1 := kept_bounds s 0 8 (by omega)
  have h2 := kept_bounds o 0 32 (by omega)
  have k1 := fun W => between_any s 0 8 (by omega) W
  have k2 := fun W => between_any o 0 32 (by omega) W
  have hF : mostI s o = 12 + 343 * keptI s 0 8 + 318 * keptI o 0 32 := rfl
  rw [hF]
  clear hF
  generalize keptI s 0 8 = x at *
  generalize keptI o 0 32 = y at *
  obtain ⟨h1, h3⟩ := h1
  obtain ⟨h2, h4⟩ := h2
  go_enter Try.func8, Try.ntmps8
  go_wp2_with fail
  refine (k1 _).mono ?_
  rintro e w' ⟨rfl, rfl⟩
  go_wp2_with fail
  refine (k2 _).mono ?_
  rintro e w' ⟨rfl, rfl⟩
  go_wp2_with fail
  go_ret
  exact ⟨rfl, rfl⟩
/-- How many pieces n things make, where z of them fit in one. -/
def piecesN (n z : Nat) : Nat := n / z + min (n % z) 1
theorem pieces_any (n z : Nat) (hz : 1 ≤ z) (hz2 : z ≤ 1000000000) (hn : n ≤ 1000000000) (W : World) : Calls Try.prog 29 #[.int .i64 n, .int .i64 z] W fun e w' => e = .returned (.int .i64 (piecesN n z : Nat)) ∧ Below W.heap.size W w' := by
  have hq : n / z ≤ n := Nat.div_le_self n z
  have hr : n % z < z := Nat.mod_lt _ (by omega)
  have e1 : (n : Int).tdiv (z : Int) = ((n / z : Nat) : Int) := rfl
  have e2 : (n : Int).tmod (z : Int) = ((n % z : Nat) : Int) := rfl
  have hp : piecesN n z = n / z + min (n % z) 1 := rfl
  rw [hp]
  clear hp
  generalize n / z = q at *
  generalize n % z = r at *
  have n1 : ((z : Int) == 0) = false := by rw [beq_eq_false_iff_ne]; omega
  have n2 : ((z : Int) == -1) = false := by rw [beq_eq_false_iff_ne]; omega
  have n3 : ¬ (z : Int) < 1 := by omega
  have n4 : ¬ (z : Int) = 0 := by omega
  by_cases h1 : 1 < r
  · have hm : min r 1 = 1 := by omega
    rw [hm]
    have h1' : (1 : Int) < r := by omega
    clear hm
    go_enter Try.func29, Try.ntmps29
    go_wp2_with fail
    go_region
    all_goals (go_wp2_with fail)
    all_goals go_ret
    all_goals exact ⟨by simp, below_drewN (Below.refl _ _) _⟩
  · have hm : min r 1 = r := by omega
    rw [hm]
    have h1' : ¬ (1 : Int) < r := by omega
    clear hm
    go_enter Try.func29, Try.ntmps29
    go_wp2_with fail
    go_region
    all_goals (go_wp2_with fail)
    all_goals go_ret
    all_goals exact ⟨by simp, below_drewN (Below.refl _ _) _⟩
end Go.Proofs.Ythkeefdapnkgeaa
