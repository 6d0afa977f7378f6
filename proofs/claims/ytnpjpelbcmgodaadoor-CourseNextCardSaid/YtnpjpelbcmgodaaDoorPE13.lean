import Derived.Test.YtnpjpelbcmgodaaDoorPE12
import Derived.Test.YtnpjpelbcmgodaaDoorPE00
import Derived.OpenShut
import Derived.Deep.OwnRows
import Derived.Laws.AppendOwnNone
import Derived.WalkSpells
namespace Go.Proofs.YtnpjpelbcmgodaaDoor
open Go.RowKit Go.ChangeShapes Go.WideShapes
set_option linter.unusedVariables false
set_option maxRecDepth 10000
def fit (x:Int):Bool:=decide (1≤x∧x≤8)
def part (x j k:Nat):Value:=.int .u8 ((if k<j then x / 256 ^ k % 256 else 0:Nat):Int)
def From (q p:Option Addr):Prop:=∀ a,q=some a→∃ a',p=some a'∧a.block=a'.block
end Go.Proofs.YtnpjpelbcmgodaaDoor
