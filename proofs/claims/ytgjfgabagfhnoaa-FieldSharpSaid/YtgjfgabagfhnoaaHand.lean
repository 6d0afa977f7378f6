/- A region that draws, walked by hand: a condition may be strengthened under way. -/
import Derived.Test.YtgjfgabagfhnoaaBase
import Derived.Deep.RegionHeld
namespace Go.Proofs.Ytgjfgabagfhnoaa
open Go.RowKit Go.ChangeShapes Go.WideShapes
set_option linter.unusedVariables false
set_option maxRecDepth 10000
theorem wpAnyH_less {P : Program} {md : Region.Mode} {ops : Array Oper} {Q : Exit → Act → World → Prop} {S S2 : World → Prop} (h : ∀ w, S2 w → S w) : ∀ (fuel : Nat) (listed : Array Bool) (a : Act) (w : World), wpAnyH P md ops Q S2 fuel listed a w → wpAnyH P md ops Q S fuel listed a w
  | 0, _, _, _, hh => hh
  | fuel + 1, _, _, _, hh => ⟨hh.1, fun i hi => wpOp_mono (fun a' w' h' => ⟨h w' h'.1, wpAnyH_less h fuel _ a' w' h'.2⟩) (hh.2 i hi)⟩
end Go.Proofs.Ytgjfgabagfhnoaa
