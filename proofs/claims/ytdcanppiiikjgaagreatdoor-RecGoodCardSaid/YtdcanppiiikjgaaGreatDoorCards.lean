/-
  DERIVED. GIVEN WITH THE SEED: THE CARDS: each row of YtdcanppiiikjgaaGreatDoorRows.lean that lists a variable, with what it lists TIED to the program's text (the seventh form; the later family's looks); each row that meets fmt, with fmt's text TOLD by the authors' own Lean function (tested against real Go, not proved from fmt's source: count such statements apart). THE CARD IS WHAT COUNTS. Prove the row's statement (the work); the ties are given (YtdcanppiiikjgaaGreatDoorTie.lean); close each card by the builder's one call (the guide's Derived/Test/ToyasCard.lean, 'card_holds'). Laid BY PROGRAM, IN A SANDBOX (cutbox-door.mjs). By AI agents, Wed Nov 11 2026. No macro, syntax, notation, axiom, sorry.
-/
import Derived.Test.YtdcanppiiikjgaaGreatDoorRows
import GoSem.ClaimSeven
namespace Go.Proofs.YtdcanppiiikjgaaGreatDoor
namespace Rows

/-- THE TIED CARD OF 'pledgelaw14.RecGood'. -/
def recGoodCard : Claim7 := { stood := { row := recGoodRow, standIns := [], harness := (true, "24a8320db5ff2895dbb33ed3312c4418bd312e3190a1d34c768b1a51e9a3135a"), looks := false }, kinds := [], alts := [], laidByText := true, laidKinds := [.data, .data], laidTests := true, laidLooks := .later }
def RecGoodCardSaid : Prop := Claim7.holds Tryz.pinned (.plain (OpenSpec.ofChange recGoodSpec)) recGoodCard

/-- THE TIED CARD OF 'pledgelaw14.RecBytes'. -/
def recBytesCard : Claim7 := { stood := { row := recBytesRow, standIns := [], harness := (true, "24a8320db5ff2895dbb33ed3312c4418bd312e3190a1d34c768b1a51e9a3135a"), looks := false }, kinds := [], alts := [], laidByText := true, laidKinds := [.data, .data], laidTests := true, laidLooks := .later }
def RecBytesCardSaid : Prop := Claim7.holds Tryz.pinned (.plain (OpenSpec.ofChange recBytesSpec)) recBytesCard

/-- THE SECOND FORM's CARD OF 'pledgelaw14.RecGood'. -/
def recGoodUptoCard : Claim7 := { stood := { row := recGoodUptoRow, standIns := [], harness := (true, "24a8320db5ff2895dbb33ed3312c4418bd312e3190a1d34c768b1a51e9a3135a"), looks := false }, kinds := [], alts := [], laidByText := true, laidKinds := [.data, .data], laidTests := true, laidLooks := .later }
def RecGoodUptoCardSaid : Prop := Claim7.holds Tryz.pinned (.plain (OpenSpec.upto recGoodSpec)) recGoodUptoCard

/-- THE SECOND FORM's CARD OF 'pledgelaw14.RecBytes'. -/
def recBytesUptoCard : Claim7 := { stood := { row := recBytesUptoRow, standIns := [], harness := (true, "24a8320db5ff2895dbb33ed3312c4418bd312e3190a1d34c768b1a51e9a3135a"), looks := false }, kinds := [], alts := [], laidByText := true, laidKinds := [.data, .data], laidTests := true, laidLooks := .later }
def RecBytesUptoCardSaid : Prop := Claim7.holds Tryz.pinned (.plain (OpenSpec.upto recBytesSpec)) recBytesUptoCard
end Rows
end Go.Proofs.YtdcanppiiikjgaaGreatDoor
