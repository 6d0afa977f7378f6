import Derived.Test.YtclbkfpbdidaiaaGreatDoorPC07
import Derived.MakeChecks
import Derived.Lib.SmallJoins
import Derived.Test.YtclbkfpbdidaiaaGreatDoorPC00
namespace Go.Proofs.YtclbkfpbdidaiaaGreatDoor
open Go.RowKit Go.ChangeShapes Go.WideShapes
set_option linter.unusedVariables false
set_option maxRecDepth 10000
theorem key_eql (a b c x y z:Int) (w:World):(binOp .eql 40 (.agg #[.int .u8 a,.int .u8 b,.int .u8 c]) (.agg #[.int .u8 x,.int .u8 y,.int .u8 z])).run Tryz.prog w=.ok (.bool (decide (((a,b,c):K)=(x,y,z)))) w:=by
 by_cases h1:a=x
 · by_cases h2:b=y
   · by_cases h3:c=z
     · subst h1 h2 h3
       go_simp
     · subst h1 h2
       go_simp
   · subst h1
     go_simp
 · go_simp
end Go.Proofs.YtclbkfpbdidaiaaGreatDoor
