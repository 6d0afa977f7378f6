/- slices.Grow of nil, slices.Concat of two, and what the writer makes of them. -/
import Derived.Test.YtppmokkbepihhaaDoorWireMore
import Derived.Lib.Walk
import Derived.Lib.SliceRun
import Derived.Lib.AppendZerosOnto
namespace Go.Proofs.YtppmokkbepihhaaDoor
open Go.RowKit Go.ChangeShapes Go.WideShapes
set_option linter.unusedVariables false
set_option maxRecDepth 10000

theorem num_wr (B : Nat) (v : Value) (most : Int) (S : St) (x : Nat) (size : Int) (w : World) (h : Wr w B v most S) (h0 : 0 ≤ most) (h9 : most ≤ 9223372036854775807) (hl : S.2.length ≤ 900000) :
    Calls Tryd.prog 17 #[.pointer (some ⟨B, 0, none⟩), .int .u64 (x : Int), .int .i64 size] w (Wrot w B v most (numW most S x size)) := by
  by_cases hs : 1 ≤ size ∧ size ≤ 8
  · obtain ⟨n, rfl⟩ : ∃ n : Nat, size = (n : Int) := ⟨size.toNat, by omega⟩
    unfold numW
    rw [Int.toNat_natCast]
    by_cases hx : x < 256 ^ n
    · rw [if_pos ⟨hs.1, hs.2, hx⟩]
      exact num_wr_good B v most S x n w h h0 h9 hl (by omega) (by omega) hx
    · rw [if_neg fun hh => hx hh.2.2]
      exact num_wr_big B v most S x n w h (by omega) (by omega) hx
  · rw [numW_bad _ _ _ _ fun hh => hs ⟨hh.1, hh.2.1⟩]
    exact num_wr_size B v most S x size w h (by rw [fit, decide_eq_false_iff_not]; exact hs)
/-- A row of one byte as the text lays it. -/
theorem sl_one (x : Nat) (hx : x < 256) (w : World) : Sl (w.alloc (.cells #[.int .u8 (x : Int)] 5)) (some ⟨w.heap.size, 0, none⟩) 1 1 [x] :=
  ⟨rfl, Nat.le_refl _, (fun h => by cases h), (fun y hy => by simp at hy; omega), fun _ => ⟨_, 0, rfl, fun j hj => by
    match j, hj with
    | 0, _ => simp⟩⟩
theorem sl_two (x y : Nat) (hx : x < 256) (hy : y < 256) (w : World) : Sl (w.alloc (.cells #[.int .u8 (x : Int), .int .u8 (y : Int)] 5)) (some ⟨w.heap.size, 0, none⟩) 2 2 [x, y] :=
  ⟨rfl, Nat.le_refl _, (fun h => by cases h), (fun z hz => by simp at hz; omega), fun _ => ⟨_, 0, rfl, fun j hj => by
    match j, hj with
    | 0, _ => simp
    | 1, _ => simp⟩⟩
/-- A truth's byte. -/
def bit (b : Bool) : Nat := if b then 1 else 0
end Go.Proofs.YtppmokkbepihhaaDoor
