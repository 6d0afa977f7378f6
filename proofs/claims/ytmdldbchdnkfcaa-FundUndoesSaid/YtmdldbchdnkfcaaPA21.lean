import Derived.Test.YtmdldbchdnkfcaaPA03
import Derived.Test.YtmdldbchdnkfcaaPA18
namespace Go.Proofs.Ytmdldbchdnkfcaa
open Go.RowKit
set_option linter.unusedVariables false
set_option maxRecDepth 10000
abbrev O := K × Int
abbrev o0 : O := ((0, 0, 0), 0)
def In64 (z : Int) : Prop := -9223372036854775808 ≤ z ∧ z ≤ 9223372036854775807
def Ook (o : O) : Prop := Kok o.1 ∧ In64 o.2
def dsL (L : List O) (k : K) : List Int := (L.filter fun o => decide (o.1 = k)).map (·.2)
theorem dsL_append (L M : List O) (k : K) : dsL (L ++ M) k = dsL L k ++ dsL M k := by simp [dsL]
theorem dsL_one (o : O) (k : K) : dsL [o] k = if o.1 = k then [o.2] else [] := by
 by_cases h : o.1 = k <;> simp [dsL, h]
end Go.Proofs.Ytmdldbchdnkfcaa
