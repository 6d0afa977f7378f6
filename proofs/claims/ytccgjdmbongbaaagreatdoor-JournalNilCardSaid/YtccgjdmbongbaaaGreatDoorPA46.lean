import Derived.Test.YtccgjdmbongbaaaGreatDoorPA43
import Derived.Test.YtccgjdmbongbaaaGreatDoorPA45
namespace Go.Proofs.YtccgjdmbongbaaaGreatDoor
open Go.RowKit Go.ChangeShapes Go.WideShapes
set_option linter.unusedVariables false
set_option linter.unusedSimpArgs false
set_option maxRecDepth 10000
theorem jn_nil {NB : Nat} (hso : SortsU NB) : JnNilI Words Jg where
 get w i hi := by
  refine (jget_nil i hi w).mono ?_
  rintro e w' ⟨p, m, rfl, _, hb⟩
  exact ⟨p, m, rfl, hb⟩
 of_ w i := by
  refine (jof_nil i w).mono ?_
  rintro e w' ⟨rfl, hb⟩
  exact ⟨none, 0, rfl, hb⟩
 first w := jfirst_nil w
 apply w at_ r La Ta Ma hw hP hok hs := japply_nil w at_ r
 all w := by
  refine (jall_nil hso w).mono ?_
  rintro e w' ⟨rfl, hb⟩
  exact ⟨none, 0, rfl, hb⟩
 copy w := jcopy_nil hso w
end Go.Proofs.YtccgjdmbongbaaaGreatDoor
