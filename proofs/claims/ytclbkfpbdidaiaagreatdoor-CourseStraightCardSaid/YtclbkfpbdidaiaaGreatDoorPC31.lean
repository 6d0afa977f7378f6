import Derived.Test.YtclbkfpbdidaiaaGreatDoorProg
import Derived.WalkKit
import Derived.ProofKit
import Derived.Lib.Hide
namespace Go.Proofs.YtclbkfpbdidaiaaGreatDoor
open Go.RowKit Go.ChangeShapes Go.WideShapes
set_option linter.unusedVariables false
def q2g (n:Int):Int:=if n<1∨512<n then 0 else 6+n
theorem fsize_any (n:Int) (w:World) :
 Calls Tryz.prog 62 #[.int .i64 n] w fun e w'=>e=.returned (.int .i64 (q2g n))∧w=w':=by
 by_cases h1:n<1
 · rw [show q2g n=0 from if_pos (.inl h1)]
   go_enter Tryz.func62,Tryz.ntmps62
   go_wp2_with fail
   go_ret
   exact⟨rfl,rfl⟩
 · by_cases h2:512<n
   · rw [show q2g n=0 from if_pos (.inr h2)]
     go_enter Tryz.func62,Tryz.ntmps62
     go_wp2_with fail
     go_ret
     exact⟨rfl,rfl⟩
   · rw [show q2g n=6+n from if_neg (by omega)]
     go_enter Tryz.func62,Tryz.ntmps62
     go_wp2_with fail
     go_ret
     exact⟨rfl,rfl⟩
end Go.Proofs.YtclbkfpbdidaiaaGreatDoor
