import Derived.Test.YtnpjpelbcmgodaaDoorPE09
import Derived.Deep.LoopGhost
namespace Go.Proofs.YtnpjpelbcmgodaaDoor
open Go.RowKit Go.ChangeShapes Go.WideShapes
set_option linter.unusedVariables false
set_option maxRecDepth 10000
def Lists (W:World) (L:List K) (e:Ending) (w':World):Prop:=∃ p c,e=.returned (.slice p L.length c)∧KL w' p L.length c L∧Below W.heap.size W w'
end Go.Proofs.YtnpjpelbcmgodaaDoor
