/- The chapter's example. -/
import Derived.Test.YtoegffnmjohonaaDoorCrcMore
import Derived.Lib.SlBytesConst
namespace Go.Proofs.YtoegffnmjohonaaDoor
open Go.RowKit Go.ChangeShapes
set_option linter.unusedVariables false

theorem nine_sum : sumF (fun j => 49 + j) 9 = 3421780262 := by decide +kernel
theorem nine_bytes (w : World) : Bytes (w.alloc (.cells #[.int .u8 49, .int .u8 50, .int .u8 51, .int .u8 52, .int .u8 53, .int .u8 54, .int .u8 55, .int .u8 56, .int .u8 57] 5 (9, 10))) (some ⟨w.heap.size, 0, none⟩) 9 (fun j => 49 + j) := by
  refine ⟨fun j hj => by show 49 + j < 256; omega, fun _ => ⟨_, 0, rfl, by simp, fun j hj => ?_⟩⟩
  rw [World.cell?_alloc_mark]
  match j, hj with
  | 0, _ => rfl
  | 1, _ => rfl
  | 2, _ => rfl
  | 3, _ => rfl
  | 4, _ => rfl
  | 5, _ => rfl
  | 6, _ => rfl
  | 7, _ => rfl
  | 8, _ => rfl

theorem works_any (w : World) (hT : Tab w) :
    Calls Tryd.prog 10 #[] w fun e w' => e = .returned (.bool true) ∧ Below w.heap.size w w' := by
  have HT := Lib.hid hT
  have HS := Lib.hid nine_sum
  have HN := Lib.hid nine_bytes
  have kc := fun (w : World) (C : Array Value) (n c : Nat) => Lib.run_convert_bytes_const (P := Tryd.prog) w 22 5 C n c Tryd.underlying22 Tryd.underlying5
  clear hT
  go_enter Tryd.func10, Tryd.ntmps10
  go_wp2_with fail
  refine (sum_any _ _ _ _ _ (HN.out _) (by omega) (HT.out.later ((Below.refl _ _).alloc (Nat.le_refl _) _) HT.out.lt)).mono ?_
  rintro e w' ⟨rfl, rfl⟩
  rw [HS.out]
  have hb : Below w.heap.size w (w.alloc (.cells #[.int .u8 49, .int .u8 50, .int .u8 51, .int .u8 52, .int .u8 53, .int .u8 54, .int .u8 55, .int .u8 56, .int .u8 57] 5 (9, 10))) := (Below.refl _ _).alloc (Nat.le_refl _) _
  have HT2 := Lib.hid (HT.out.later hb HT.out.lt)
  generalize w.alloc (.cells #[.int .u8 49, .int .u8 50, .int .u8 51, .int .u8 52, .int .u8 53, .int .u8 54, .int .u8 55, .int .u8 56, .int .u8 57] 5 (9, 10)) = w2 at hb HT2 ⊢
  have HB := Lib.hid hb
  clear hb
  go_wp2_with fail
  refine (same_any _ _ _ _ _ _ (HN.out _) (by omega) (HT2.out.later ((Below.refl _ _).alloc (Nat.le_refl _) _) HT2.out.lt)).mono ?_
  rintro e w' ⟨rfl, rfl⟩
  rw [HS.out]
  go_wp2_with fail
  go_ret
  exact ⟨rfl, HB.out.alloc HB.out.size _⟩
end Go.Proofs.YtoegffnmjohonaaDoor
