/- Good, Place: whether there is a key, and where it stands. -/
import Derived.Test.YtmjhfohpllndhaaKeyLeaf
import Derived.Deep.QuietTactic
import Derived.BigQuiet
namespace Go.Proofs.Ytmjhfohpllndhaa
open Go.RowKit Go.ChangeShapes Go.WideShapes
set_option linter.unusedVariables false

end Go.Proofs.Ytmjhfohpllndhaa
