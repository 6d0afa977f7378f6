import Derived.Test.YtclbkfpbdidaiaaGreatDoorPC03
import Derived.OpenShut
namespace Go.Proofs.YtclbkfpbdidaiaaGreatDoor
open Go.RowKit Go.ChangeShapes
set_option linter.unusedVariables false
set_option maxRecDepth 10000
def RowN (w:World) (p:Option Addr) (n:Nat) (xs:List Int):Prop :=
 n=xs.length∧(∀ x∈xs,-9223372036854775808≤x∧x≤9223372036854775807) ∧
  (n=0∨∃ b off,p=some ⟨b,off,none⟩∧b<w.heap.size∧∀ j,j<xs.length→w.cell? ⟨b,off+j,none⟩=some (.int .i64 (xs.getD j 0)))
theorem q2f (p:Option Addr) (n cap:Nat) (xs:List Int) (w:World) (h:RowN w p n xs) (hbig:n≤1000000) :
 Calls Tryz.prog 138 #[.slice p n cap] w fun e w'=>e=.returned (.tuple #[.int .i64 (val (z1h xs)),.bool (okB (z1h xs))])∧w=w':=by
 obtain⟨h1,h2,h3⟩:=h
 rcases h3 with h3 | ⟨b,off,rfl,hlt,hc⟩
 · obtain rfl:xs=[]:=List.eq_nil_of_length_eq_zero (by omega)
   subst h3
   have e:=sum_none p cap w
   rw [z8q 0 (by omega)] at e
   exact e
 · exact sum_row b off n cap xs w h1 hbig hc h2
theorem rsum_of (p:Option Addr) (n cap:Nat) (xs:List Int) (w:World) (h:RowN w p n xs) (hbig:n≤1000000) :
 Calls Tryz.prog 75 #[.slice p n cap] w fun e w'=>e=.returned (.tuple #[.int .i64 (val (z1h xs)),.bool (okB (z1h xs))])∧Below w.heap.size w w':=by
 obtain⟨h1,h2,h3⟩:=h
 rcases h3 with h3 | ⟨b,off,rfl,hlt,hc⟩
 · obtain rfl:xs=[]:=List.eq_nil_of_length_eq_zero (by omega)
   subst h3
   have e:=rsum_none p cap w
   rw [z8q 0 (by omega)] at e
   exact e
 · exact rsum_row b off n cap xs w hlt h1 hbig hc h2
end Go.Proofs.YtclbkfpbdidaiaaGreatDoor
