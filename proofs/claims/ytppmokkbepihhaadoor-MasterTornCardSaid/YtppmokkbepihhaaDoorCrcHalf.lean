/- Half a byte's moves, by the table. -/
import Derived.Test.YtppmokkbepihhaaDoorProg
import Derived.Test.YtppmokkbepihhaaDoorCrcMath
import Derived.WalkKit
import Derived.ProofKit
import Derived.Below
import Derived.Lib.Hide
import Derived.OpenShut
import Derived.Laws.BitsAllLaws
namespace Go.Proofs.YtppmokkbepihhaaDoor
open Go.RowKit Go.ChangeShapes
set_option linter.unusedVariables false

/-- The table lies in its variable. -/
def Tab (w : World) : Prop := ∀ i, i < 16 → w.cell? ⟨0, i, none⟩ = some (.int .u32 ((halfTab.getD i 0 : Nat) : Int))
theorem Tab.lt {w : World} (h : Tab w) : 0 < w.heap.size := World.block_lt_of_cell? _ _ (h 0 (by omega))
theorem Tab.later {w w' : World} {B : Nat} (h : Tab w) (hb : Below B w w') (hB : 0 < B) : Tab w' := fun i hi => by
  rw [hb.cell (p := ⟨0, i, none⟩) hB]; exact h i hi

theorem half_any (r : Nat) (w : World) (hr : r < 4294967296) (h : Tab w) :
    Calls Tryd.prog 37 #[.int .u32 (r : Int)] w fun e w' => e = .returned (.int .u32 ((its 4 r : Nat) : Int)) ∧ w = w' := by
  have hb : bits .and .u32 (r : Int) 15 = ((r % 16 : Nat) : Int) := by
    have := u32_and_nat r 15 hr (by omega)
    rw [nat_mask4] at this
    exact this
  have hc := h (r % 16) (by omega)
  have hx : bits .xor .u32 ((r : Int) / 16) ((halfTab.getD (r % 16) 0 : Nat) : Int) = ((its 4 r : Nat) : Int) := by
    have := u32_xor_nat (r / 16) (halfTab.getD (r % 16) 0) (by omega) (halfTab_lt _ (by omega))
    rw [half_its] at this
    simpa using this
  generalize its 4 r = y at hx ⊢
  generalize halfTab.getD (r % 16) 0 = z at hx hc
  clear h
  go_enter Tryd.func37, Tryd.ntmps37
  go_wp2_with fail
  go_ret
  exact ⟨rfl, rfl⟩
end Go.Proofs.YtppmokkbepihhaaDoor
