import Derived.Test.YtclbkfpbdidaiaaDoorPA13
import Derived.Test.YtclbkfpbdidaiaaDoorPA22
namespace Go.Proofs.YtclbkfpbdidaiaaDoor
open Go.RowKit Go.ChangeShapes Go.WideShapes
set_option linter.unusedVariables false
set_option linter.unusedSimpArgs false
set_option maxRecDepth 10000
structure Tv where
 c:Tc
 p:Option Addr
 n:Nat
 m:Nat
def tv0:Tv:=⟨tc0,none,0,0⟩
def Tv.id (t:Tv):Int:=t.c.id
def Tv.sg (t:Tv):Int:=t.c.sg
theorem txv_cells {w:World} {B:Nat} {a b c d e f g h:Value} {T:TypeId} (hb:w.heap[B]?=some (.cells #[a,b,c,d,e,f,g,h] T (0,0))):w.cell? ⟨B,0,none⟩=some a∧w.cell? ⟨B,1,none⟩=some b∧w.cell? ⟨B,2,none⟩=some c∧w.cell? ⟨B,3,none⟩=some d∧w.cell? ⟨B,4,none⟩=some e∧w.cell? ⟨B,5,none⟩=some f∧w.cell? ⟨B,6,none⟩=some g∧w.cell? ⟨B,7,none⟩=some h:=⟨z0a hb rfl,z0a hb rfl,z0a hb rfl,z0a hb rfl,z0a hb rfl,z0a hb rfl,z0a hb rfl,z0a hb rfl⟩
end Go.Proofs.YtclbkfpbdidaiaaDoor
