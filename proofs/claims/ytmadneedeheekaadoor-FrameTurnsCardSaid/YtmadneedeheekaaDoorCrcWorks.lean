/- The chapter's example. -/
import Derived.Test.YtmadneedeheekaaDoorCrcMore
import Derived.Lib.SlBytesConst
namespace Go.Proofs.YtmadneedeheekaaDoor
open Go.RowKit Go.ChangeShapes
set_option linter.unusedVariables false

theorem nine_sum : sumF (fun j => 49 + j) 9 = 3421780262 := by decide +kernel
theorem nine_bytes (w : World) : Bytes (w.alloc (.cells #[.int .u8 49, .int .u8 50, .int .u8 51, .int .u8 52, .int .u8 53, .int .u8 54, .int .u8 55, .int .u8 56, .int .u8 57] 5 (9, 10))) (some ⟨w.heap.size, 0, none⟩) 9 (fun j => 49 + j) := by
  refine ⟨fun j hj => by show 49 + j < 256; omega, fun _ => ⟨_, 0, rfl, by simp, fun j hj => ?_⟩⟩
  rw [World.cell?_alloc_mark]
  match j, hj with
  | 0, _ => rfl
  | 1, _ => rfl
  | 2, _ => rfl
  | 3, _ => rfl
  | 4, _ => rfl
  | 5, _ => rfl
  | 6, _ => rfl
  | 7, _ => rfl
  | 8, _ => rfl

end Go.Proofs.YtmadneedeheekaaDoor
