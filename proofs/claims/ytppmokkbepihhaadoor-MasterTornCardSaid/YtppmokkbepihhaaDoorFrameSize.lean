/- frame.Size: what it answers. -/
import Derived.Test.YtppmokkbepihhaaDoorProg
import Derived.WalkKit
import Derived.ProofKit
import Derived.Below
import Derived.Lib.Hide
namespace Go.Proofs.YtppmokkbepihhaaDoor
open Go.RowKit Go.ChangeShapes Go.WideShapes
set_option linter.unusedVariables false

/-- How many bytes a frame has. -/
def sizeI (n : Int) : Int := if n < 1 ∨ 512 < n then 0 else 6 + n
end Go.Proofs.YtppmokkbepihhaaDoor
