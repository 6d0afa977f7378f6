/- The chapter's example; what nil answers. -/
import Derived.Test.YtppmokkbepihhaaDoorWireOk
namespace Go.Proofs.YtppmokkbepihhaaDoor
open Go.RowKit Go.ChangeShapes Go.WideShapes
set_option linter.unusedVariables false
set_option maxRecDepth 10000

theorem sl_ab (w : World) : Sl (w.alloc (.cells #[.int .u8 97, .int .u8 98] 5 (2, 3))) (some ⟨w.heap.size, 0, none⟩) 2 2 [97, 98] :=
  ⟨rfl, by omega, (fun h => by cases h), (fun z hz => by simp at hz; omega), fun _ => ⟨_, 0, rfl, fun j hj => by
    rw [World.cell?_alloc_mark]
    match j, hj with
    | 0, _ => rfl
    | 1, _ => rfl⟩⟩
theorem strOf_list (L : List Nat) : (strOf L).toList = L.map UInt8.ofNat := by simp [strOf]
theorem str_ab : ((strOf [97, 98]).toList == [97, 98]) = true := by rw [strOf_list]; rfl
theorem str_all : ((strOf [2, 1, 2, 0, 97, 98, 1]).toList == [2, 1, 2, 0, 97, 98, 1]) = true := by rw [strOf_list]; rfl
end Go.Proofs.YtppmokkbepihhaaDoor
