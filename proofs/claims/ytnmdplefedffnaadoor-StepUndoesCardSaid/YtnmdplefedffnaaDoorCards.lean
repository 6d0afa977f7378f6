/-
  DERIVED. GIVEN WITH THE SEED: THE CARDS: each row of YtnmdplefedffnaaDoorRows.lean that lists a variable, with what it lists TIED to the program's text (the seventh form; the later family's looks); each row that meets fmt, with fmt's text TOLD by the authors' own Lean function (tested against real Go, not proved from fmt's source: count such statements apart). THE CARD IS WHAT COUNTS. Prove the row's statement (the work); the ties are given (YtnmdplefedffnaaDoorTie.lean); close each card by the builder's one call (the guide's Derived/Test/ToyasCard.lean, 'card_holds'). Laid BY PROGRAM, IN A SANDBOX (cutbox-door.mjs). By AI agents, Wed Nov 11 2026. No macro, syntax, notation, axiom, sorry.
-/
import Derived.Test.YtnmdplefedffnaaDoorRows
import GoSem.ClaimSeven
namespace Go.Proofs.YtnmdplefedffnaaDoor
namespace Rows

/-- THE TIED CARD OF 'pledgelaw12.StepGood'. -/
def stepGoodCard : Claim7 := { stood := { row := stepGoodRow, standIns := [], harness := (true, "1ea3b0e1f906f0138b000609bc199b793b93454a5936b1b53978e693560eec91"), looks := false }, kinds := [], alts := [], laidByText := true, laidKinds := [.data], laidTests := true, laidLooks := .later }
def StepGoodCardSaid : Prop := Claim7.holds Tryd.pinned (.plain (OpenSpec.ofChange stepGoodSpec)) stepGoodCard

/-- THE TIED CARD OF 'pledgelaw12.StepDoes'. -/
def stepDoesCard : Claim7 := { stood := { row := stepDoesRow, standIns := [], harness := (true, "1ea3b0e1f906f0138b000609bc199b793b93454a5936b1b53978e693560eec91"), looks := false }, kinds := [], alts := [], laidByText := true, laidKinds := [.data], laidTests := true, laidLooks := .later }
def StepDoesCardSaid : Prop := Claim7.holds Tryd.pinned (.plain (OpenSpec.ofChange stepDoesSpec)) stepDoesCard

/-- THE TIED CARD OF 'pledgelaw12.StepSame'. -/
def stepSameCard : Claim7 := { stood := { row := stepSameRow, standIns := [], harness := (true, "1ea3b0e1f906f0138b000609bc199b793b93454a5936b1b53978e693560eec91"), looks := false }, kinds := [], alts := [], laidByText := true, laidKinds := [.data], laidTests := true, laidLooks := .later }
def StepSameCardSaid : Prop := Claim7.holds Tryd.pinned (.plain (OpenSpec.ofChange stepSameSpec)) stepSameCard

/-- THE TIED CARD OF 'pledgelaw12.StepUndoes'. -/
def stepUndoesCard : Claim7 := { stood := { row := stepUndoesRow, standIns := [], harness := (true, "1ea3b0e1f906f0138b000609bc199b793b93454a5936b1b53978e693560eec91"), looks := false }, kinds := [], alts := [], laidByText := true, laidKinds := [.data], laidTests := true, laidLooks := .later }
def StepUndoesCardSaid : Prop := Claim7.holds Tryd.pinned (.plain (OpenSpec.ofChange stepUndoesSpec)) stepUndoesCard

/-- THE TIED CARD OF 'pledgelaw12.StepPairs'. -/
def stepPairsCard : Claim7 := { stood := { row := stepPairsRow, standIns := [], harness := (true, "1ea3b0e1f906f0138b000609bc199b793b93454a5936b1b53978e693560eec91"), looks := false }, kinds := [], alts := [], laidByText := true, laidKinds := [.data], laidTests := true, laidLooks := .later }
def StepPairsCardSaid : Prop := Claim7.holds Tryd.pinned (.plain (OpenSpec.ofChange stepPairsSpec)) stepPairsCard

/-- THE SECOND FORM's CARD OF 'pledgelaw12.StepGood'. -/
def stepGoodUptoCard : Claim7 := { stood := { row := stepGoodUptoRow, standIns := [], harness := (true, "1ea3b0e1f906f0138b000609bc199b793b93454a5936b1b53978e693560eec91"), looks := false }, kinds := [], alts := [], laidByText := true, laidKinds := [.data], laidTests := true, laidLooks := .later }
def StepGoodUptoCardSaid : Prop := Claim7.holds Tryd.pinned (.plain (OpenSpec.upto stepGoodSpec)) stepGoodUptoCard

/-- THE SECOND FORM's CARD OF 'pledgelaw12.StepDoes'. -/
def stepDoesUptoCard : Claim7 := { stood := { row := stepDoesUptoRow, standIns := [], harness := (true, "1ea3b0e1f906f0138b000609bc199b793b93454a5936b1b53978e693560eec91"), looks := false }, kinds := [], alts := [], laidByText := true, laidKinds := [.data], laidTests := true, laidLooks := .later }
def StepDoesUptoCardSaid : Prop := Claim7.holds Tryd.pinned (.plain (OpenSpec.upto stepDoesSpec)) stepDoesUptoCard

/-- THE SECOND FORM's CARD OF 'pledgelaw12.StepSame'. -/
def stepSameUptoCard : Claim7 := { stood := { row := stepSameUptoRow, standIns := [], harness := (true, "1ea3b0e1f906f0138b000609bc199b793b93454a5936b1b53978e693560eec91"), looks := false }, kinds := [], alts := [], laidByText := true, laidKinds := [.data], laidTests := true, laidLooks := .later }
def StepSameUptoCardSaid : Prop := Claim7.holds Tryd.pinned (.plain (OpenSpec.upto stepSameSpec)) stepSameUptoCard

/-- THE SECOND FORM's CARD OF 'pledgelaw12.StepUndoes'. -/
def stepUndoesUptoCard : Claim7 := { stood := { row := stepUndoesUptoRow, standIns := [], harness := (true, "1ea3b0e1f906f0138b000609bc199b793b93454a5936b1b53978e693560eec91"), looks := false }, kinds := [], alts := [], laidByText := true, laidKinds := [.data], laidTests := true, laidLooks := .later }
def StepUndoesUptoCardSaid : Prop := Claim7.holds Tryd.pinned (.plain (OpenSpec.upto stepUndoesSpec)) stepUndoesUptoCard

/-- THE SECOND FORM's CARD OF 'pledgelaw12.StepPairs'. -/
def stepPairsUptoCard : Claim7 := { stood := { row := stepPairsUptoRow, standIns := [], harness := (true, "1ea3b0e1f906f0138b000609bc199b793b93454a5936b1b53978e693560eec91"), looks := false }, kinds := [], alts := [], laidByText := true, laidKinds := [.data], laidTests := true, laidLooks := .later }
def StepPairsUptoCardSaid : Prop := Claim7.holds Tryd.pinned (.plain (OpenSpec.upto stepPairsSpec)) stepPairsUptoCard
end Rows
end Go.Proofs.YtnmdplefedffnaaDoor
