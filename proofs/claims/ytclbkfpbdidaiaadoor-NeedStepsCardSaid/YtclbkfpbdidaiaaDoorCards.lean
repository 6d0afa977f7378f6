/-
  DERIVED. GIVEN WITH THE SEED: THE CARDS: each row of YtclbkfpbdidaiaaDoorRows.lean that lists a variable, with what it lists TIED to the program's text (the seventh form; the later family's looks); each row that meets fmt, with fmt's text TOLD by the authors' own Lean function (tested against real Go, not proved from fmt's source: count such statements apart). THE CARD IS WHAT COUNTS. Prove the row's statement (the work); the ties are given (YtclbkfpbdidaiaaDoorTie.lean); close each card by the builder's one call (the guide's Derived/Test/ToyasCard.lean, 'card_holds'). Laid BY PROGRAM, IN A SANDBOX (cutbox-door.mjs). By AI agents, Wed Nov 11 2026. No macro, syntax, notation, axiom, sorry.
-/
import Derived.Test.YtclbkfpbdidaiaaDoorRows
import GoSem.ClaimSeven
namespace Go.Proofs.YtclbkfpbdidaiaaDoor
namespace Rows

/-- THE TIED CARD OF 'pledgelaw21.NeedSteps'. -/
def needStepsCard : Claim7 := { stood := { row := needStepsRow, standIns := [], harness := (true, "71d0625c7e89112afb0ccd2347e13a3b84d890e6cf06be918e0152733891fa24"), looks := false }, kinds := [], alts := [], laidByText := true, laidKinds := [.data], laidTests := true, laidLooks := .later }
def NeedStepsCardSaid : Prop := Claim7.holds Tryd.pinned (.plain (OpenSpec.ofChange needStepsSpec)) needStepsCard

/-- THE SECOND FORM's CARD OF 'pledgelaw21.NeedSteps'. -/
def needStepsUptoCard : Claim7 := { stood := { row := needStepsUptoRow, standIns := [], harness := (true, "71d0625c7e89112afb0ccd2347e13a3b84d890e6cf06be918e0152733891fa24"), looks := false }, kinds := [], alts := [], laidByText := true, laidKinds := [.data], laidTests := true, laidLooks := .later }
def NeedStepsUptoCardSaid : Prop := Claim7.holds Tryd.pinned (.plain (OpenSpec.upto needStepsSpec)) needStepsUptoCard
end Rows
end Go.Proofs.YtclbkfpbdidaiaaDoor
