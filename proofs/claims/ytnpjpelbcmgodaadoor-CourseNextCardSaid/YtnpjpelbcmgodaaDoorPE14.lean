import Derived.Test.YtnpjpelbcmgodaaDoorPE11
import Derived.Test.YtnpjpelbcmgodaaDoorPE16
namespace Go.Proofs.YtnpjpelbcmgodaaDoor
open Go.RowKit Go.ChangeShapes Go.WideShapes
set_option linter.unusedVariables false
set_option maxRecDepth 10000
def u64 (q:Int):Nat:=(q % 18446744073709551616).toNat
def noP:Pg:=⟨0,0,0,[],[],[],0,0,0,0⟩
end Go.Proofs.YtnpjpelbcmgodaaDoor
