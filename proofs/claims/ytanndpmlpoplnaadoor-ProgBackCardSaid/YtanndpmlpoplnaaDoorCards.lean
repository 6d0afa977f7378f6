/-
  DERIVED. GIVEN WITH THE SEED: THE CARDS: each row of YtanndpmlpoplnaaDoorRows.lean that lists a variable, with what it lists TIED to the program's text (the seventh form; the later family's looks); each row that meets fmt, with fmt's text TOLD by the authors' own Lean function (tested against real Go, not proved from fmt's source: count such statements apart). THE CARD IS WHAT COUNTS. Prove the row's statement (the work); the ties are given (YtanndpmlpoplnaaDoorTie.lean); close each card by the builder's one call (the guide's Derived/Test/ToyasCard.lean, 'card_holds'). Laid BY PROGRAM, IN A SANDBOX (cutbox-door.mjs). By AI agents, Wed Nov 11 2026. No macro, syntax, notation, axiom, sorry.
-/
import Derived.Test.YtanndpmlpoplnaaDoorRows
import GoSem.ClaimSeven
namespace Go.Proofs.YtanndpmlpoplnaaDoor
namespace Rows

/-- THE TIED CARD OF 'pledgelaw13.ProgGood'. -/
def progGoodCard : Claim7 := { stood := { row := progGoodRow, standIns := [], harness := (true, "ac6aeaa9876184a14e5db5b070ef24fd7fcca79f503e9e374dcfd2b07f5567c0"), looks := false }, kinds := [], alts := [], laidByText := true, laidKinds := [.data], laidTests := true, laidLooks := .later }
def ProgGoodCardSaid : Prop := Claim7.holds Tryd.pinned (.plain (OpenSpec.ofChange progGoodSpec)) progGoodCard

/-- THE TIED CARD OF 'pledgelaw13.ProgSteps'. -/
def progStepsCard : Claim7 := { stood := { row := progStepsRow, standIns := [], harness := (true, "ac6aeaa9876184a14e5db5b070ef24fd7fcca79f503e9e374dcfd2b07f5567c0"), looks := false }, kinds := [], alts := [], laidByText := true, laidKinds := [.data], laidTests := true, laidLooks := .later }
def ProgStepsCardSaid : Prop := Claim7.holds Tryd.pinned (.plain (OpenSpec.ofChange progStepsSpec)) progStepsCard

/-- THE TIED CARD OF 'pledgelaw13.ProgBytes'. -/
def progBytesCard : Claim7 := { stood := { row := progBytesRow, standIns := [], harness := (true, "ac6aeaa9876184a14e5db5b070ef24fd7fcca79f503e9e374dcfd2b07f5567c0"), looks := false }, kinds := [], alts := [], laidByText := true, laidKinds := [.data], laidTests := true, laidLooks := .later }
def ProgBytesCardSaid : Prop := Claim7.holds Tryd.pinned (.plain (OpenSpec.ofChange progBytesSpec)) progBytesCard

/-- THE TIED CARD OF 'pledgelaw13.ProgBack'. -/
def progBackCard : Claim7 := { stood := { row := progBackRow, standIns := [], harness := (true, "ac6aeaa9876184a14e5db5b070ef24fd7fcca79f503e9e374dcfd2b07f5567c0"), looks := false }, kinds := [], alts := [], laidByText := true, laidKinds := [.data], laidTests := true, laidLooks := .later }
def ProgBackCardSaid : Prop := Claim7.holds Tryd.pinned (.plain (OpenSpec.ofChange progBackSpec)) progBackCard

/-- THE TIED CARD OF 'pledgelaw13.ProgMoves'. -/
def progMovesCard : Claim7 := { stood := { row := progMovesRow, standIns := [], harness := (true, "ac6aeaa9876184a14e5db5b070ef24fd7fcca79f503e9e374dcfd2b07f5567c0"), looks := false }, kinds := [], alts := [], laidByText := true, laidKinds := [.data], laidTests := true, laidLooks := .later }
def ProgMovesCardSaid : Prop := Claim7.holds Tryd.pinned (.plain (OpenSpec.ofChange progMovesSpec)) progMovesCard

/-- THE SECOND FORM's CARD OF 'pledgelaw13.ProgGood'. -/
def progGoodUptoCard : Claim7 := { stood := { row := progGoodUptoRow, standIns := [], harness := (true, "ac6aeaa9876184a14e5db5b070ef24fd7fcca79f503e9e374dcfd2b07f5567c0"), looks := false }, kinds := [], alts := [], laidByText := true, laidKinds := [.data], laidTests := true, laidLooks := .later }
def ProgGoodUptoCardSaid : Prop := Claim7.holds Tryd.pinned (.plain (OpenSpec.upto progGoodSpec)) progGoodUptoCard

/-- THE SECOND FORM's CARD OF 'pledgelaw13.ProgSteps'. -/
def progStepsUptoCard : Claim7 := { stood := { row := progStepsUptoRow, standIns := [], harness := (true, "ac6aeaa9876184a14e5db5b070ef24fd7fcca79f503e9e374dcfd2b07f5567c0"), looks := false }, kinds := [], alts := [], laidByText := true, laidKinds := [.data], laidTests := true, laidLooks := .later }
def ProgStepsUptoCardSaid : Prop := Claim7.holds Tryd.pinned (.plain (OpenSpec.upto progStepsSpec)) progStepsUptoCard

/-- THE SECOND FORM's CARD OF 'pledgelaw13.ProgBytes'. -/
def progBytesUptoCard : Claim7 := { stood := { row := progBytesUptoRow, standIns := [], harness := (true, "ac6aeaa9876184a14e5db5b070ef24fd7fcca79f503e9e374dcfd2b07f5567c0"), looks := false }, kinds := [], alts := [], laidByText := true, laidKinds := [.data], laidTests := true, laidLooks := .later }
def ProgBytesUptoCardSaid : Prop := Claim7.holds Tryd.pinned (.plain (OpenSpec.upto progBytesSpec)) progBytesUptoCard

/-- THE SECOND FORM's CARD OF 'pledgelaw13.ProgBack'. -/
def progBackUptoCard : Claim7 := { stood := { row := progBackUptoRow, standIns := [], harness := (true, "ac6aeaa9876184a14e5db5b070ef24fd7fcca79f503e9e374dcfd2b07f5567c0"), looks := false }, kinds := [], alts := [], laidByText := true, laidKinds := [.data], laidTests := true, laidLooks := .later }
def ProgBackUptoCardSaid : Prop := Claim7.holds Tryd.pinned (.plain (OpenSpec.upto progBackSpec)) progBackUptoCard

/-- THE SECOND FORM's CARD OF 'pledgelaw13.ProgMoves'. -/
def progMovesUptoCard : Claim7 := { stood := { row := progMovesUptoRow, standIns := [], harness := (true, "ac6aeaa9876184a14e5db5b070ef24fd7fcca79f503e9e374dcfd2b07f5567c0"), looks := false }, kinds := [], alts := [], laidByText := true, laidKinds := [.data], laidTests := true, laidLooks := .later }
def ProgMovesUptoCardSaid : Prop := Claim7.holds Tryd.pinned (.plain (OpenSpec.upto progMovesSpec)) progMovesUptoCard
end Rows
end Go.Proofs.YtanndpmlpoplnaaDoor
