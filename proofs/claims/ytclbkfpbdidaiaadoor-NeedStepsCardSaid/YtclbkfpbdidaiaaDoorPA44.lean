import Derived.Test.YtclbkfpbdidaiaaDoorPA22
import Derived.Sort.QuietIn
import Derived.RangeFuncNested
import Derived.RangeFuncBound
import Derived.LoopIn
namespace Go.Proofs.YtclbkfpbdidaiaaDoor
open Go.RowKit Go.ChangeShapes Go.WideShapes
set_option linter.unusedVariables false
section
attribute [local go_sem] Oper.semAt_some
def dn (n t:Nat):List Nat:=(List.range' t (n-t)).reverse
end
end Go.Proofs.YtclbkfpbdidaiaaDoor
