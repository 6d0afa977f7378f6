import Derived.Test.YtclbkfpbdidaiaaGreatDoorPA20
import Derived.Sort.QuietIn
import Derived.RangeFuncNested
import Derived.RangeFuncBound
import Derived.LoopIn
namespace Go.Proofs.YtclbkfpbdidaiaaGreatDoor
open Go.RowKit Go.ChangeShapes Go.WideShapes
set_option linter.unusedVariables false
section
attribute [local go_sem] Oper.semAt_some
def dn (n t:Nat):List Nat:=(List.range' t (n-t)).reverse
end
end Go.Proofs.YtclbkfpbdidaiaaGreatDoor
