/- few: are items few and small enough; put: an item is written. -/
import Derived.Test.YtppmokkbepihhaaDoorWireItems
import Derived.LoopTactic
namespace Go.Proofs.YtppmokkbepihhaaDoor
open Go.RowKit Go.ChangeShapes Go.WideShapes
set_option linter.unusedVariables false
set_option maxRecDepth 10000

def Few (len : Nat) (its : Nat → Item) : Prop := len ≤ 30 ∧ ∀ i, i < len → (its i).m ≤ 300
def FewOk (w : World) (len : Nat) (its : Nat → Item) (e : Ending) (w' : World) : Prop := ∃ b : Bool, e = .returned (.bool b) ∧ (b = true → Few len its) ∧ w = w'
/-- What an item is written as. -/
def putW (most : Int) (S : St) (it : Item) : St :=
  if it.k % 5 = 0 then numW most S it.x it.n
  else if it.k % 5 = 1 then numW most S it.x 8
  else if it.k % 5 = 2 then rawW most S [bit (it.x % 2 == 1)]
  else if it.k % 5 = 3 then bytesW most S it.L
  else rawW most S it.L
/-- An item as a value. -/
def Item.val (it : Item) : Value := .agg #[.int .u8 ((it.k : Nat) : Int), .int .u64 ((it.x : Nat) : Int), .int .i64 it.n, .slice it.p it.m it.c]
end Go.Proofs.YtppmokkbepihhaaDoor
