import Derived.Test.YtclbkfpbdidaiaaGreatDoorPC17
import Derived.Deep.Fields
namespace Go.Proofs.YtclbkfpbdidaiaaGreatDoor
open Go.RowKit Go.ChangeShapes Go.WideShapes Go.Deep
set_option linter.unusedVariables false
set_option maxRecDepth 10000
structure Item where
 k:Nat
 x:Nat
 n:Int
 p:Option Addr
 m:Nat
 c:Nat
 L:List Nat
instance:Inhabited Item:=⟨⟨0,0,0,none,0,0,[]⟩⟩
section
variable {H:Type} {enc:TypeId × Value→H} {P:Program} {w:World} {base:Nat} {spare:Nat→Bool} {held:Bool}
end
end Go.Proofs.YtclbkfpbdidaiaaGreatDoor
namespace Go.Proofs.YtclbkfpbdidaiaaGreatDoor
open Go.RowKit Go.ChangeShapes Go.WideShapes
set_option linter.unusedVariables false
set_option maxRecDepth 10000
def Few (len:Nat) (its:Nat→Item):Prop:=len≤30∧∀ i,i<len→(its i).m≤300
def Item.val (it:Item):Value:=.agg #[.int .u8 ((it.k:Nat):Int),.int .u64 ((it.x:Nat):Int),.int .i64 it.n,.slice it.p it.m it.c]
end Go.Proofs.YtclbkfpbdidaiaaGreatDoor
