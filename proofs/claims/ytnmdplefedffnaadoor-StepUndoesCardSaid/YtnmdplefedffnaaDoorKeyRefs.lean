/- The document's answers on which keys there are: Good, Same, All, Place. -/
import Derived.Test.YtnmdplefedffnaaDoorKeyQuiet
namespace Go.Proofs.YtnmdplefedffnaaDoor
open Go.RowKit Go.ChangeShapes Go.WideShapes
set_option linter.unusedVariables false

end Go.Proofs.YtnmdplefedffnaaDoor
