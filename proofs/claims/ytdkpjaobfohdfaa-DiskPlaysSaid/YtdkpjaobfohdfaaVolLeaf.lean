/- The volume's small calls: kept, Blocks, Size, has, at. -/
import Derived.Test.YtdkpjaobfohdfaaVolKit
import Derived.LoopTactic
import Derived.WalkSpells
import Derived.IntWalk
namespace Go.Proofs.Ytdkpjaobfohdfaa
open Go.RowKit Go.ChangeShapes Go.WideShapes
set_option linter.unusedVariables false
set_option maxRecDepth 10000
set_option linter.unusedSimpArgs false

theorem kept_any (x hi : Int) (w : World) (h0 : 0 ≤ hi) : Calls Try.prog 42 #[.int .i64 x, .int .i64 hi] w fun e w' => e = .returned (.int .i64 (kp x hi : Nat)) ∧ w' = w := by
  have hk : (if hi < (if x < 0 then 0 else x) then hi else (if x < 0 then 0 else x)) = ((kp x hi : Nat) : Int) := by unfold kp; split <;> split <;> omega
  have hk2 : min (max x 0) hi = ((kp x hi : Nat) : Int) := by unfold kp; omega
  have hk3 : min hi (max x 0) = ((kp x hi : Nat) : Int) := by unfold kp; omega
  generalize kp x hi = y at *
  go_enter Try.func42, Try.ntmps42
  go_wp2_with fail
  all_goals (go_ret; exact ⟨rfl, rfl⟩)
theorem blocks_any (B G s : Nat) (V : List (List Int)) (w : World) (h : Vo w B G s V) : Calls Try.prog 51 #[.pointer (some ⟨B, 0, none⟩)] w fun e w' => e = .returned (.int .i64 (V.length : Nat)) ∧ w' = w := by
  obtain ⟨c0, c1, c2⟩ := h.cells
  clear h
  generalize V.length = n at *
  go_enter Try.func51, Try.ntmps51
  go_wp2_with fail
  go_ret
  exact ⟨rfl, rfl⟩
theorem blocks_nil (w : World) : Calls Try.prog 51 #[.pointer none] w fun e w' => e = .returned (.int .i64 0) ∧ w' = w := by
  go_enter Try.func51, Try.ntmps51
  go_wp2_with fail
  go_ret
  exact ⟨rfl, rfl⟩
theorem size_any (B G s : Nat) (V : List (List Int)) (w : World) (h : Vo w B G s V) : Calls Try.prog 52 #[.pointer (some ⟨B, 0, none⟩)] w fun e w' => e = .returned (.int .i64 (s : Nat)) ∧ w' = w := by
  obtain ⟨c0, c1, c2⟩ := h.cells
  clear h
  go_enter Try.func52, Try.ntmps52
  go_wp2_with fail
  go_ret
  exact ⟨rfl, rfl⟩
theorem size_nil (w : World) : Calls Try.prog 52 #[.pointer none] w fun e w' => e = .returned (.int .i64 0) ∧ w' = w := by
  go_enter Try.func52, Try.ntmps52
  go_wp2_with fail
  go_ret
  exact ⟨rfl, rfl⟩
theorem has_any (B G s : Nat) (V : List (List Int)) (i : Int) (w : World) (h : Vo w B G s V) : Calls Try.prog 64 #[.pointer (some ⟨B, 0, none⟩), .int .i64 i] w fun e w' => e = .returned (.bool (decide (0 ≤ i ∧ i < V.length))) ∧ w' = w := by
  have hb := blocks_any B G s V w h
  clear h
  generalize V.length = n at *
  go_enter Try.func64, Try.ntmps64
  by_cases h0 : 0 ≤ i
  · go_wp2_with fail
    refine hb.mono ?_
    rintro e w' ⟨rfl, rfl⟩
    go_wp2_with fail
    go_ret
    exact ⟨by simp [h0], rfl⟩
  · go_wp2_with fail
    go_ret
    exact ⟨by simp; omega, rfl⟩
theorem has_nil (i : Int) (w : World) : Calls Try.prog 64 #[.pointer none, .int .i64 i] w fun e w' => e = .returned (.bool false) ∧ w' = w := by
  have hb := blocks_nil w
  go_enter Try.func64, Try.ntmps64
  by_cases h0 : 0 ≤ i
  · have hd : decide (i < 0) = false := decide_eq_false (by omega)
    go_wp2_with fail
    refine hb.mono ?_
    rintro e w' ⟨rfl, rfl⟩
    go_wp2_with fail
    go_ret
    exact ⟨by simp [h0], rfl⟩
  · go_wp2_with fail
    go_ret
    exact ⟨by simp [h0], rfl⟩
/-- Where block i stands. -/
theorem at_any (B G s : Nat) (V : List (List Int)) (i : Nat) (w : World) (h : Vo w B G s V) (hi : i < V.length) : Calls Try.prog 65 #[.pointer (some ⟨B, 0, none⟩), .int .i64 (i : Nat)] w fun e w' => e = .returned (.slice (some ⟨G, i * s, none⟩) s (V.length * s - i * s)) ∧ ∃ q, w' = w.drewN q := by
  have hbig := h.big
  have hm := mul_lt_mul' (s := s) hi
  have c0 : ∀ q, (w.drewN q).cell? ⟨B, 0, none⟩ = some (.int .i64 (V.length : Nat)) := fun q => h.cells.1
  have c1 : ∀ q, (w.drewN q).cell? ⟨B, 1, none⟩ = some (.int .i64 (s : Nat)) := fun q => h.cells.2.1
  have c2 : ∀ q, (w.drewN q).cell? ⟨B, 2, none⟩ = some (.slice (some ⟨G, 0, none⟩) (V.length * s) (V.length * s)) := fun q => h.cells.2.2
  have e1 : IntKind.i64.wrap ((i : Int) * (s : Int)) = ((i * s : Nat) : Int) := by
    rw [← Int.natCast_mul]
    exact IntWalk.i64_in _ (by omega)
  have e2 : (i : Int) * (s : Int) = ((i * s : Nat) : Int) := by rw [Int.natCast_mul]
  have HK : Hid (s = 0 → i * s = 0) := Lib.hid fun h => by rw [h, Nat.mul_zero]
  clear h
  generalize V.length * s = m at *
  generalize i * s = k at *
  go_enter Try.func65, Try.ntmps65
  go_wp2_with fail
  go_quiet (fail)
  go_wp2_with fail
  all_goals (go_ret; first | exact ⟨rfl, _, rfl⟩ | (obtain rfl : k = 0 := HK.out (by omega); exact ⟨rfl, _, rfl⟩))
end Go.Proofs.Ytdkpjaobfohdfaa
