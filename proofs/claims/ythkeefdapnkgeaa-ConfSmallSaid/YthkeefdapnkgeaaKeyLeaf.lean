/- The smallest calls of layer key. -/
import Derived.Test.YthkeefdapnkgeaaKeyMath
import Derived.WalkKit
import Derived.ProofKit
import Derived.Below
import Derived.Lib.Hide
import Derived.WalkSpells
import Derived.LoopTactic
import Derived.StillTailTactics
import Derived.Sort.Grow
import Derived.Deep.Draws
namespace Go.Proofs.Ythkeefdapnkgeaa
open Go.RowKit Go.ChangeShapes Go.WideShapes
set_option linter.unusedVariables false

theorem sized_any (s w : Int) (W : World) :
    Calls Try.prog 37 #[.int .i64 s, .int .i64 w] W fun e w' => e = .returned (.bool (sizedB s w)) ∧ w' = W := by
  by_cases h1 : 1 ≤ s <;> by_cases h2 : s ≤ 4 <;> by_cases h3 : 1 ≤ w <;> by_cases h4 : w ≤ 4
  all_goals
    go_enter Try.func37, Try.ntmps37
    go_wp2_with fail
    go_ret
    exact ⟨by simp [sizedB, *], rfl⟩

theorem width_any (a w : Int) (W : World) :
    Calls Try.prog 39 #[.int .u8 a, .int .i64 w] W fun e w' => e = .returned (.int .i64 (widthI a w)) ∧ w' = W := by
  by_cases h1 : a = 1
  · subst h1
    go_enter Try.func39, Try.ntmps39
    go_wp2_with fail
    go_ret
    exact ⟨rfl, rfl⟩
  by_cases h2 : a = 2
  · subst h2
    go_enter Try.func39, Try.ntmps39
    go_wp2_with fail
    go_ret
    exact ⟨rfl, rfl⟩
  by_cases h3 : a = 3
  · subst h3
    go_enter Try.func39, Try.ntmps39
    go_wp2_with fail
    go_ret
    exact ⟨rfl, rfl⟩
  by_cases h4 : a = 4
  · subst h4
    go_enter Try.func39, Try.ntmps39
    go_wp2_with fail
    go_ret
    exact ⟨rfl, rfl⟩
  have hF : widthI a w = 0 := by simp [widthI, h1, h2, h3, h4]
  rw [hF]
  go_enter Try.func39, Try.ntmps39
  go_wp2_with fail
  go_ret
  exact ⟨rfl, rfl⟩

theorem below_any (s w : Int) (k : Nat) (hk1 : 1 ≤ k) (hk5 : k ≤ 5) (hs0 : 0 ≤ s) (hs4 : s ≤ 4) (hw0 : 0 ≤ w) (hw4 : w ≤ 4) (W : World) :
    Calls Try.prog 42 #[.int .i64 s, .int .i64 w, .int .u8 k] W fun e w' => e = .returned (.int .i64 (belowI s w k)) ∧ w' = W := by
  go_enter Try.func42, Try.ntmps42
  go_wp2_with fail
  go_loopw [7, 8] (fun n i wr => ∃ l : Nat, 1 ≤ l ∧ l ≤ k ∧ i = .int .u8 l ∧ n = .int .i64 (belowI s w l) ∧ wr = W) (fun _ i _ => k - (intOf i).toNat)
  case atStart => exact ⟨1, Nat.le_refl _, hk1, rfl, by simp [belowI, widthI], rfl⟩
  case round =>
    obtain ⟨l, hl1, hlk, rfl, rfl, rfl⟩ := hrel
    by_cases hlt : l < k
    · have hb := below_bounds s w hs0 hs4 hw0 hw4 l
      have hx := width_bounds l w hw0 hw4
      have hm := mul_bounds s _ hs0 hs4 hx.1 hx.2
      have hn : belowI s w (l + 1) = belowI s w l + s * widthI l w := rfl
      have hcall := fun W => width_any (l : Int) w W
      generalize belowI s w l = n at *
      generalize widthI (l : Int) w = x at *
      have HN := Lib.hid hn
      clear hn
      obtain ⟨hm0, hm1⟩ := hm
      go_wp2_with fail
      refine (hcall _).mono ?_
      rintro e w' ⟨rfl, rfl⟩
      go_wp2_with fail
      go_roundw
      case rel => exact ⟨l + 1, by omega, by omega, by go_num, by rw [HN.out], trivial⟩
      case measure => simp [intOf]; omega
    · obtain rfl : l = k := by omega
      go_wp2_with fail
      go_ret
      exact ⟨rfl, rfl⟩

theorem count_any (s w : Int) (W : World) :
    Calls Try.prog 38 #[.int .i64 s, .int .i64 w] W fun e w' => e = .returned (.int .i64 (if sizedB s w then belowI s w 5 else 0)) ∧ w' = W := by
  have hc := fun W => sized_any s w W
  cases hz : sizedB s w with
  | false =>
    rw [hz] at hc
    go_enter Try.func38, Try.ntmps38
    go_wp2_with fail
    refine (hc _).mono ?_
    rintro e w' ⟨rfl, rfl⟩
    go_wp2_with fail
    go_ret
    exact ⟨rfl, rfl⟩
  | true =>
    rw [hz] at hc
    have hz' := hz
    simp only [sizedB, Bool.and_eq_true, decide_eq_true_eq] at hz'
    have hb := fun W => below_any s w 5 (by omega) (by omega) (by omega) (by omega) (by omega) (by omega) W
    clear hz hz'
    go_enter Try.func38, Try.ntmps38
    go_wp2_with fail
    refine (hc _).mono ?_
    rintro e w' ⟨rfl, rfl⟩
    go_wp2_with fail
    refine (hb _).mono ?_
    rintro e w' ⟨rfl, rfl⟩
    go_wp2_with fail
    go_ret
    exact ⟨rfl, rfl⟩

/-- w' is w behind some draws, with some blocks laid behind it. -/
def Gr (w w' : World) : Prop := ∃ q os, w' = Sort.grow (w.drewN q) os
theorem Gr.refl (w : World) : Gr w w := ⟨0, #[], by rw [Sort.grow_empty]; rfl⟩
theorem Gr.trans {a b c : World} (h : Gr a b) (g : Gr b c) : Gr a c := by
  obtain ⟨q, os, rfl⟩ := h
  obtain ⟨q', os', rfl⟩ := g
  exact ⟨q + q', os ++ os', by show Sort.grow (Sort.grow ((a.drewN q).drewN q') os) os' = _; rw [Sort.grow_grow, World.drewN_drewN]⟩
theorem Gr.alloc {a b : World} (h : Gr a b) (o : Obj) : Gr a (b.alloc o) := h.trans ⟨0, #[o], by rw [Sort.alloc_eq_grow]; rfl⟩
theorem Gr.drew {a b : World} (h : Gr a b) : Gr a b.drew := h.trans ⟨1, #[], by rw [Sort.grow_empty]; rfl⟩
theorem Gr.drewN {a b : World} (h : Gr a b) (n : Nat) : Gr a (b.drewN n) := h.trans ⟨n, #[], by rw [Sort.grow_empty]⟩
theorem Gr.below {a b : World} (h : Gr a b) : Below a.heap.size a b := by
  obtain ⟨q, os, rfl⟩ := h
  exact ⟨rfl, rfl, rfl, by simp [World.drewN], fun k hk => Sort.heap_grow_old (a.drewN q) os hk⟩
/-- A key's block. -/
def box (k : K) : Obj := .cells #[.int .u8 k.1, .int .u8 k.2.1, .int .u8 k.2.2] 37
end Go.Proofs.Ythkeefdapnkgeaa
