import Derived.Test.YtnpjpelbcmgodaaDoorRows
import Derived.RowKit
namespace Go.Proofs.YtnpjpelbcmgodaaDoor
open Go.RowKit
set_option linter.unusedVariables false
set_option maxRecDepth 10000
abbrev K:=Int × Int × Int
def Kok (k:K):Prop:=(0≤k.1∧k.1≤255)∧(0≤k.2.1∧k.2.1≤255)∧(0≤k.2.2∧k.2.2≤255)
def kc (k:K):List Value:=[.int .u8 k.1,.int .u8 k.2.1,.int .u8 k.2.2]
def z0i (s w:Int):Bool:=decide (1≤s) && decide (s≤4) && decide (1≤w) && decide (w≤4)
def z6f (a w:Int):Int:=if a=1∨a=2 then w else if a=3∨a=4 then 1 else 0
def z5y (s w a b c:Int):Bool:=z0i s w && decide (b<s) && decide (c<z6f a w)
end Go.Proofs.YtnpjpelbcmgodaaDoor
