/-
  DERIVED. GIVEN WITH THE SEED: THE CARDS: each row of YtdcanppiiikjgaaDoorRows.lean that lists a variable, with what it lists TIED to the program's text (the seventh form; the later family's looks); each row that meets fmt, with fmt's text TOLD by the authors' own Lean function (tested against real Go, not proved from fmt's source: count such statements apart). THE CARD IS WHAT COUNTS. Prove the row's statement (the work); the ties are given (YtdcanppiiikjgaaDoorTie.lean); close each card by the builder's one call (the guide's Derived/Test/ToyasCard.lean, 'card_holds'). Laid BY PROGRAM, IN A SANDBOX (cutbox-door.mjs). By AI agents, Wed Nov 11 2026. No macro, syntax, notation, axiom, sorry.
-/
import Derived.Test.YtdcanppiiikjgaaDoorRows
import GoSem.ClaimSeven
namespace Go.Proofs.YtdcanppiiikjgaaDoor
namespace Rows

/-- THE TIED CARD OF 'pledgelaw14.RecBack'. -/
def recBackCard : Claim7 := { stood := { row := recBackRow, standIns := [], harness := (true, "2e7859534c0342525054993582b5f056b9b3cd5c25b55111a3219f6aeeea3dc8"), looks := false }, kinds := [], alts := [], laidByText := true, laidKinds := [.data, .data, .data], laidTests := true, laidLooks := .later }
def RecBackCardSaid : Prop := Claim7.holds Tryd.pinned (.plain (OpenSpec.ofChange recBackSpec)) recBackCard

/-- THE TIED CARD OF 'pledgelaw14.RecSame'. -/
def recSameCard : Claim7 := { stood := { row := recSameRow, standIns := [], harness := (true, "2e7859534c0342525054993582b5f056b9b3cd5c25b55111a3219f6aeeea3dc8"), looks := false }, kinds := [], alts := [], laidByText := true, laidKinds := [.data, .data], laidTests := true, laidLooks := .later }
def RecSameCardSaid : Prop := Claim7.holds Tryd.pinned (.plain (OpenSpec.ofChange recSameSpec)) recSameCard

/-- THE TIED CARD OF 'pledgelaw13.ProgBytes'. -/
def progBytesCard : Claim7 := { stood := { row := progBytesRow, standIns := [], harness := (true, "2e7859534c0342525054993582b5f056b9b3cd5c25b55111a3219f6aeeea3dc8"), looks := false }, kinds := [], alts := [], laidByText := true, laidKinds := [.data], laidTests := true, laidLooks := .later }
def ProgBytesCardSaid : Prop := Claim7.holds Tryd.pinned (.plain (OpenSpec.ofChange progBytesSpec)) progBytesCard

/-- THE SECOND FORM's CARD OF 'pledgelaw14.RecBack'. -/
def recBackUptoCard : Claim7 := { stood := { row := recBackUptoRow, standIns := [], harness := (true, "2e7859534c0342525054993582b5f056b9b3cd5c25b55111a3219f6aeeea3dc8"), looks := false }, kinds := [], alts := [], laidByText := true, laidKinds := [.data, .data, .data], laidTests := true, laidLooks := .later }
def RecBackUptoCardSaid : Prop := Claim7.holds Tryd.pinned (.plain (OpenSpec.upto recBackSpec)) recBackUptoCard

/-- THE SECOND FORM's CARD OF 'pledgelaw14.RecSame'. -/
def recSameUptoCard : Claim7 := { stood := { row := recSameUptoRow, standIns := [], harness := (true, "2e7859534c0342525054993582b5f056b9b3cd5c25b55111a3219f6aeeea3dc8"), looks := false }, kinds := [], alts := [], laidByText := true, laidKinds := [.data, .data], laidTests := true, laidLooks := .later }
def RecSameUptoCardSaid : Prop := Claim7.holds Tryd.pinned (.plain (OpenSpec.upto recSameSpec)) recSameUptoCard

/-- THE SECOND FORM's CARD OF 'pledgelaw13.ProgBytes'. -/
def progBytesUptoCard : Claim7 := { stood := { row := progBytesUptoRow, standIns := [], harness := (true, "2e7859534c0342525054993582b5f056b9b3cd5c25b55111a3219f6aeeea3dc8"), looks := false }, kinds := [], alts := [], laidByText := true, laidKinds := [.data], laidTests := true, laidLooks := .later }
def ProgBytesUptoCardSaid : Prop := Claim7.holds Tryd.pinned (.plain (OpenSpec.upto progBytesSpec)) progBytesUptoCard
end Rows
end Go.Proofs.YtdcanppiiikjgaaDoor
