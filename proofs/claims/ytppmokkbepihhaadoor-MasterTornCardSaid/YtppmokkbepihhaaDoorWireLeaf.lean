/- The smallest calls of layer wire: a fault noted, a size asked, bytes copied. -/
import Derived.Test.YtppmokkbepihhaaDoorWireKit
import Derived.WalkSpells
import Derived.RegionTactic
import Derived.Deep.QuietTactic
import Derived.BigQuiet
namespace Go.Proofs.YtppmokkbepihhaaDoor
open Go.RowKit Go.ChangeShapes Go.WideShapes
set_option linter.unusedVariables false
set_option maxRecDepth 10000

theorem note_first (B : Nat) (x : Int) (w : World) (hc : w.cell? ⟨B, 0, none⟩ = some (.int .i64 0)) (hf : w.frozen? ⟨B, 0, none⟩ = false) :
    Calls Tryd.prog 30 #[.pointer (some ⟨B, 0, none⟩), .int .i64 x] w fun e w' => e = .returned (.tuple #[]) ∧ w' = w.setCell ⟨B, 0, none⟩ (.int .i64 x) := by
  go_enter Tryd.func30, Tryd.ntmps30
  go_wp2_with fail
  go_end0
  exact ⟨rfl, rfl⟩
theorem note_more (B : Nat) (y x : Int) (w : World) (hc : w.cell? ⟨B, 0, none⟩ = some (.int .i64 y)) (hy : (y == 0) = false) :
    Calls Tryd.prog 30 #[.pointer (some ⟨B, 0, none⟩), .int .i64 x] w fun e w' => e = .returned (.tuple #[]) ∧ w = w' := by
  have hy' : ¬ y = 0 := by simpa using hy
  go_enter Tryd.func30, Tryd.ntmps30
  go_wp2_with fail
  go_end0
  exact ⟨rfl, rfl⟩
/-- Is a number's size one that there may be? -/
def fit (x : Int) : Bool := decide (1 ≤ x ∧ x ≤ 8)
theorem sized_any (x : Int) (w : World) :
    Calls Tryd.prog 29 #[.int .i64 x] w fun e w' => e = .returned (.bool (fit x)) ∧ w = w' := by
  by_cases h1 : 1 ≤ x
  · by_cases h2 : x ≤ 8
    · have hF : fit x = true := by simp [fit, h1, h2]
      rw [hF]
      go_enter Tryd.func29, Tryd.ntmps29
      go_wp2_with fail
      go_ret
      exact ⟨rfl, rfl⟩
    · have hF : fit x = false := by simp [fit, h2]
      rw [hF]
      go_enter Tryd.func29, Tryd.ntmps29
      go_wp2_with fail
      go_ret
      exact ⟨rfl, rfl⟩
  · have hF : fit x = false := by simp [fit, h1]
    rw [hF]
    go_enter Tryd.func29, Tryd.ntmps29
    go_wp2_with fail
    go_ret
    exact ⟨rfl, rfl⟩

/-- What a copy of bytes is. -/
def Copied (w : World) (n : Nat) (L : List Nat) (e : Ending) (w' : World) : Prop := ∃ v, e = .returned v ∧ Row w' v n L ∧ Below w.heap.size w w' ∧ ∀ k, v.ownBlock = some k → w.heap.size ≤ k
theorem own_none (w : World) : Row (w.alloc (.cells #[] 5)) (.slice (some ⟨w.heap.size, 0, none⟩) 0 0) 0 [] :=
  ⟨rfl, (fun x h => by cases h), World.ownsRow_lit w #[] 0 (Nat.zero_le _) (Nat.zero_le _) rfl⟩
theorem clone_any (p : Option Addr) (n c : Nat) (L : List Nat) (w : World) (hS : Sl w p n c L) (hn : n ≤ 100000) :
    Calls Tryd.prog 32 #[.slice p n c] w (Copied w n L) := by
  have HS := Lib.hid hS
  have HO := Lib.hid (own_none w)
  have HS1 : Hid (Sl (w.alloc (.cells #[] 5)) p n c L) := Lib.hid (hS.later ((Below.refl _ _).alloc (Nat.le_refl _) _))
  have q := fun (w : World) (a : Option Addr) (n c n' c' : Nat) => Lib.run_eql_slice_nil w 25 5 a n c n' c' Tryd.underlying25
  clear hS
  cases p with
  | none =>
    have hc := HS.out.nil rfl
    have hn0 := HS.out.cap
    obtain rfl : n = 0 := by omega
    have hl := HS.out.len
    obtain rfl : L = [] := List.eq_nil_of_length_eq_zero hl
    clear hl hn0 hc
    go_enter Tryd.func32, Tryd.ntmps32
    go_wp2_with fail
    go_ret
    exact ⟨_, rfl, Row.nil _, Below.refl _ _, fun k hk => by cases hk⟩
  | some a =>
    go_enter Tryd.func32, Tryd.ntmps32
    go_wp2_with (at_builtin; refine wpList_append_row rfl _ _ rfl _ _ [] rfl HO.out _ _ _ L rfl HS1.out (by omega) ?_)
    intro v' w' hr hc hk
    have HR := Lib.hid hr
    have HC := Lib.hid hc
    have HK := Lib.hid hk
    clear hr hc hk
    go_wp2_with fail
    go_ret
    refine ⟨_, rfl, by simpa using HR.out, ?_, fun k hv => ?_⟩
    · exact HC.out.below ((Below.refl _ _).alloc (Nat.le_refl _) _) (by simp) fun k hk => by simp [Value.ownBlock] at hk; omega
    · rcases HK.out k hv with h | h
      · simp [Value.ownBlock] at h; omega
      · exact Nat.le_trans (by simp) h
end Go.Proofs.YtppmokkbepihhaaDoor
