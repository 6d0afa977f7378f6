import Derived.Test.YtclbkfpbdidaiaaGreatDoorPC08
import Derived.Deep.OwnRows
namespace Go.Proofs.YtclbkfpbdidaiaaGreatDoor
open Go.RowKit Go.ChangeShapes Go.WideShapes Go.Deep
set_option linter.unusedVariables false
set_option maxRecDepth 10000
structure KL (w:World) (p:Option Addr) (n c:Nat) (L:List K):Prop where
 len:L.length=n
 cap:n≤c
 max:c≤maxLen
 nil:p=none→c=0
 ok:∀ k∈L,Kok k
 cell:0<n→∃ b off,p=some ⟨b,off,none⟩∧∀ j,j<n →
  w.cell? ⟨b,off+j*3,none⟩=some (.int .u8 (L.getD j (0,0,0)).1)∧w.cell? ⟨b,off+j*3+1,none⟩=some (.int .u8 (L.getD j (0,0,0)).2.1)∧w.cell? ⟨b,off+j*3+2,none⟩=some (.int .u8 (L.getD j (0,0,0)).2.2)
section
variable {H:Type} {enc:TypeId × Value→H} {P:Program} {w:World} {base:Nat} {spare:Nat→Bool} {held:Bool}
end
end Go.Proofs.YtclbkfpbdidaiaaGreatDoor
