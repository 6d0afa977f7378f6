/- Good, Place: whether there is a key, and where it stands. -/
import Derived.Test.YtnjihplhahkljaaKeyLeaf
import Derived.Deep.QuietTactic
import Derived.BigQuiet
namespace Go.Proofs.Ytnjihplhahkljaa
open Go.RowKit Go.ChangeShapes Go.WideShapes
set_option linter.unusedVariables false

end Go.Proofs.Ytnjihplhahkljaa
