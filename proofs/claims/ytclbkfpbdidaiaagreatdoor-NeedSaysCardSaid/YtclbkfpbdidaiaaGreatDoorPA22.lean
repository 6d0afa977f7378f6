import Derived.Test.YtclbkfpbdidaiaaGreatDoorPA20
namespace Go.Proofs.YtclbkfpbdidaiaaGreatDoor
open Go.RowKit Go.ChangeShapes Go.WideShapes
set_option linter.unusedVariables false
set_option linter.unusedSimpArgs false
set_option maxRecDepth 10000
structure Tv where
 c:Tc
 p:Option Addr
 n:Nat
 m:Nat
def tv0:Tv:=⟨tc0,none,0,0⟩
def Tv.id (t:Tv):Int:=t.c.id
def Tv.sg (t:Tv):Int:=t.c.sg
abbrev tcs (t:Tv):Array Value:=#[.int .u32 t.c.id,.int .u32 t.c.sg,.int .u8 t.c.st,.bool t.c.cp,.bool t.c.dd,.slice t.p t.n t.m,.int .i64 t.c.fs,.int .i64 t.c.sz]
def tce (t:Tv):List Value:=(tcs t).toList
abbrev TvM (w:World) (t:Tv):Prop:=OL w t.p t.n t.m t.c.dn
theorem z1z {w:World} {B:Nat} {a b c d e f g h:Value} {T:TypeId} (hb:w.heap[B]?=some (.cells #[a,b,c,d,e,f,g,h] T (0,0))):w.cell? ⟨B,0,none⟩=some a∧w.cell? ⟨B,1,none⟩=some b∧w.cell? ⟨B,2,none⟩=some c∧w.cell? ⟨B,3,none⟩=some d∧w.cell? ⟨B,4,none⟩=some e∧w.cell? ⟨B,5,none⟩=some f∧w.cell? ⟨B,6,none⟩=some g∧w.cell? ⟨B,7,none⟩=some h:=⟨z0a hb rfl,z0a hb rfl,z0a hb rfl,z0a hb rfl,z0a hb rfl,z0a hb rfl,z0a hb rfl,z0a hb rfl⟩
end Go.Proofs.YtclbkfpbdidaiaaGreatDoor
