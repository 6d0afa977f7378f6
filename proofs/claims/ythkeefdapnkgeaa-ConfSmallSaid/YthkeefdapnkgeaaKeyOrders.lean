/- Two keys held against each other: the program's way and the document's. -/
import Derived.Test.YthkeefdapnkgeaaKeyGoods
namespace Go.Proofs.Ythkeefdapnkgeaa
open Go.RowKit Go.ChangeShapes Go.WideShapes
set_option linter.unusedVariables false

end Go.Proofs.Ythkeefdapnkgeaa
