import Derived.Test.YtmdldbchdnkfcaaPA09
namespace Go.Proofs.Ytmdldbchdnkfcaa
open Go.RowKit Go.ChangeShapes Go.WideShapes
set_option linter.unusedVariables false
set_option linter.unusedSimpArgs false
set_option maxRecDepth 10000
def doF (c : Int) (f : Fv) (d : Int) : Fv := if c = 0 then grantF f d else moveF f d (mvV c) (mvB c) (mvN c) (mvF c)
def doE (c : Int) (f : Fv) (d : Int) : Int := if c = 0 then grantE f d else moveE f d (mvV c) (mvB c) (mvN c) (mvF c)
theorem doF_zero (f : Fv) (d : Int) : doF 0 f d = grantF f d ∧ doE 0 f d = grantE f d := ⟨rfl, rfl⟩
theorem mv_k3 (c : Int) : K3 (mvV c) ∧ K3 (mvB c) ∧ K3 (mvN c) ∧ K3 (mvF c) := by
 unfold K3 mvV mvB mvN mvF
 refine ⟨?_, ?_, ?_, ?_⟩
 · split
   · exact Or.inr (Or.inr rfl)
   · split
     · exact Or.inr (Or.inl rfl)
     · exact Or.inl rfl
 · split
   · exact Or.inr (Or.inl rfl)
   · exact Or.inl rfl
 · split
   · exact Or.inr (Or.inl rfl)
   · exact Or.inl rfl
 · split
   · exact Or.inr (Or.inr rfl)
   · exact Or.inl rfl
end Go.Proofs.Ytmdldbchdnkfcaa
