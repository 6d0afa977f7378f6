/- The calc functions that do not loop, and the document's own: what each call answers. -/
import Derived.Test.YtnmdplefedffnaaDoorCalcMath
import Derived.Test.YtnmdplefedffnaaDoorChecked
import Derived.WalkKit
import Derived.WalkLawsBesides
import Derived.WalkSpells
import Derived.Lib.Hide
import Derived.Deep.QuietTactic
import Derived.BigQuiet
namespace Go.Proofs.YtnmdplefedffnaaDoor
open Go.RowKit
set_option linter.unusedVariables false

theorem signs_any (a : Int) (w : World) (ha0 : -9223372036854775808 ≤ a) (ha1 : a ≤ 9223372036854775807) :
    Calls Tryd.prog 48 #[.int .i64 a] w fun e w' => e = .returned (.int .u64 (sg a)) ∧ w = w' := by
  go_enter Tryd.func48, Tryd.ntmps48
  go_wp2
  go_ret
  exact ⟨ret_int (by rw [u64w]; unfold sg; split <;> omega), rfl⟩

end Go.Proofs.YtnmdplefedffnaaDoor
