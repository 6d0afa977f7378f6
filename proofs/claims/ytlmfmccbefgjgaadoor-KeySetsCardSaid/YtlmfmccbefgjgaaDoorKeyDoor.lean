/- The library's variables lie where the row's condition holds, and where the program's own start lays them. -/
import Derived.Test.YtlmfmccbefgjgaaDoorKeyWorks
import Derived.Test.YtlmfmccbefgjgaaDoorKeyOpen
import Derived.MakeChecks
import Derived.ChangeSame
import Derived.OpenShut
namespace Go.Proofs.YtlmfmccbefgjgaaDoor
open Go.RowKit Go.ChangeShapes Go.WideShapes
set_option linter.unusedVariables false

theorem star_name : "*" ++ "errors.errorString" = "*errors.errorString" := by decide
theorem errPtr (u : TypeId) (h : Tryd.prog.typeName? 3 u = some "*errors.errorString") : u = 108 :=
  typeName_ptr_named (nm := "errors.errorString") (by rw [star_name]; kernel_rfl) (by kernel_rfl) (by decide) u (by rw [star_name]; exact h)
theorem of_laid {W : World} (h : laidMetH Tryd.prog Rows.keySetsRow.laid W) : Vars W := by
  rw [MakeChecks.laidMetH_plain _ _ _ (by kernel_rfl)] at h
  have h3 := h.tail.tail
  have hT : Lib.TabIs Tryd.prog W "internal/strconv.uint64pow10" .u64 Lib.pow10Tab := Lib.tabIs_of_head gPow tPow Tryd.underlying104 Tryd.underlying65 (by kernel_rfl) (by kernel_rfl) h3
  have h4 := h3.tail
  obtain ⟨a1, s1, hr, _⟩ := laid_sentinel (tp := 108) (te := 110) (ts := 9) h4 gRng tRng Tryd.underlying68 errPtr Tryd.underlying108 Tryd.underlying110 rfl rfl Tryd.underlying9 (by kernel_rfl) (by kernel_rfl)
  have h5 := h4.tail
  obtain ⟨a2, s2, hs, _⟩ := laid_sentinel (tp := 108) (te := 110) (ts := 9) h5 gSyn tSyn Tryd.underlying68 errPtr Tryd.underlying108 Tryd.underlying110 rfl rfl Tryd.underlying9 (by kernel_rfl) (by kernel_rfl)
  exact ⟨hT, ⟨_, _, hs⟩, ⟨_, _, hr⟩⟩
/-- The world that the program's own start lays meets the condition. -/
theorem door_met (os : Os) (args : Array Value) : laidMetH Tryd.prog Rows.keySetsRow.laid ((World.doorLaid Tryd.prog 400 os).forCall (fun _ _ => 0) ⟨#[], args, []⟩).memory :=
  laidMetH_of_parts3 (fuel := 8) (laidMet_of_run' 8 (by kernel_rfl) (by kernel_rfl)) (by kernel_rfl) (by kernel_rfl)

end Go.Proofs.YtlmfmccbefgjgaaDoor
