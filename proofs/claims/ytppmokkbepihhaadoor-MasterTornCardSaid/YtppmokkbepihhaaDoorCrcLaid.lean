/- The table lies in its variable where the row's condition holds; and rows of bytes that came in. -/
import Derived.Test.YtppmokkbepihhaaDoorRows
import Derived.Test.YtppmokkbepihhaaDoorCrcMore
import Derived.LaidMore
import Derived.Lib.LaidTab
namespace Go.Proofs.YtppmokkbepihhaaDoor
open Go.RowKit Go.ChangeShapes Go.WideShapes
set_option linter.unusedVariables false

theorem gHalves : Tryd.prog.globalNamed "pledge/crc.halves" = some 0 := by kernel_rfl
theorem tHalves : (Tryd.prog.globals[0]?).map (·.type) = some 81 := by kernel_rfl
/-- What the row's condition gives the walks. -/
theorem of_laid {W : World} (h : laidMetH Tryd.prog [("pledge/crc.halves", Rows.laid_pledge_crc_halves)] W) : Tab W := by
  rw [MakeChecks.laidMetH_plain _ _ _ (by kernel_rfl)] at h
  have hT : Lib.TabIs Tryd.prog W "pledge/crc.halves" .u32 (halfTab.map Int.ofNat) := Lib.tabIs_of_head gHalves tHalves Tryd.underlying81 Tryd.underlying49 (by kernel_rfl) (by kernel_rfl) h
  intro i hi
  rw [hT.cell gHalves i (by simpa [halfTab] using hi)]
  have : ∀ i, i < 16 → (halfTab.map Int.ofNat).getD i 0 = ((halfTab.getD i 0 : Nat) : Int) := by decide
  rw [this i hi]
/-- The world that the program's own start lays meets the condition. -/
theorem door_met (os : Os) (args : Array Value) : laidMetH Tryd.prog [("pledge/crc.halves", Rows.laid_pledge_crc_halves)] ((World.doorLaid Tryd.prog 400 os).forCall (fun _ _ => 0) ⟨#[], args, []⟩).memory :=
  laidMetH_of_parts3 (fuel := 8) (laidMet_of_run' 8 (by kernel_rfl) (by kernel_rfl)) (by kernel_rfl) (by kernel_rfl)

theorem u8_bounds {n : Int} (h : (Lit.int .u8 n).wf = true) : 0 ≤ n ∧ n ≤ 255 := bounds_u8 h
/-- The first bytes of a row. -/
theorem bytes_take {w : World} {x : Addr} {zs : List Int} (k : Nat) (hk : k ≤ zs.length) (hc : ∀ i, i < zs.length → w.cell? (x.add i) = some (.int .u8 (zs.getD i 0))) (hwf : ∀ n ∈ zs, (Lit.int .u8 n).wf = true) : Bytes w (some x) k (fun j => (zs.getD j 0).toNat) := by
  have hz : ∀ j, j < zs.length → 0 ≤ zs.getD j 0 ∧ zs.getD j 0 ≤ 255 := fun j hj => u8_bounds (hwf _ (by rw [List.getD, List.getElem?_eq_getElem hj]; simp))
  refine ⟨fun j hj => by have := hz j (by omega); show (zs.getD j 0).toNat < 256; omega, fun hk0 => ?_⟩
  obtain ⟨b, off, spot⟩ := x
  have h0 := hc 0 (by omega)
  have hspot : spot = none := by simpa [Addr.add] using World.cell?_spot h0
  subst hspot
  refine ⟨b, off, rfl, World.block_lt_of_cell? _ _ h0, fun j hj => ?_⟩
  rw [Int.toNat_of_nonneg (hz j (by omega)).1, ← Go.WideShapes.add_plain]
  exact hc j (by omega)
theorem bytes_none {w : World} (f : Nat → Nat) : Bytes w none 0 f := ⟨fun j hj => by omega, fun h => by omega⟩
end Go.Proofs.YtppmokkbepihhaaDoor
