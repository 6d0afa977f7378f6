import Derived.Test.YtnpjpelbcmgodaaDoorPE13
import Derived.Lib.Walk
import Derived.Lib.AppendZerosOnto
import Derived.Lib.SlBytesConst
namespace Go.Proofs.YtnpjpelbcmgodaaDoor
open Go.RowKit Go.ChangeShapes Go.WideShapes
set_option linter.unusedVariables false
set_option maxRecDepth 10000
theorem least (len B:Nat):∃ k:Nat,min (len:Int) (B:Int)=(k:Int)∧k≤len∧k≤B :=
 ⟨min len B,by omega,Nat.min_le_left _ _,Nat.min_le_right _ _⟩
end Go.Proofs.YtnpjpelbcmgodaaDoor
