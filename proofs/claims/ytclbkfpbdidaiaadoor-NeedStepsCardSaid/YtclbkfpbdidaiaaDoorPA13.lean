import Derived.Test.YtclbkfpbdidaiaaDoorPA11
namespace Go.Proofs.YtclbkfpbdidaiaaDoor
open Go.RowKit Go.ChangeShapes Go.WideShapes
set_option linter.unusedVariables false
set_option maxRecDepth 10000
section
variable {α β:Type} (ix:α→Int)
variable {ix}
end
structure Tc where
 id:Int
 sg:Int
 st:Int
 cp:Bool
 dd:Bool
 dn:List O
 fs:Int
 sz:Int
deriving DecidableEq
def tc0:Tc:=⟨0,0,0,false,false,[],0,0⟩
end Go.Proofs.YtclbkfpbdidaiaaDoor
