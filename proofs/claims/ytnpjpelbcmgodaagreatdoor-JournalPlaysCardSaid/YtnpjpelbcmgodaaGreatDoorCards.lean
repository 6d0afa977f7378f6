/-
  DERIVED. GIVEN WITH THE SEED: THE CARDS: each row of YtnpjpelbcmgodaaGreatDoorRows.lean that lists a variable, with what it lists TIED to the program's text (the seventh form; the later family's looks); each row that meets fmt, with fmt's text TOLD by the authors' own Lean function (tested against real Go, not proved from fmt's source: count such statements apart). THE CARD IS WHAT COUNTS. Prove the row's statement (the work); the ties are given (YtnpjpelbcmgodaaGreatDoorTie.lean); close each card by the builder's one call (the guide's Derived/Test/ToyasCard.lean, 'card_holds'). Laid BY PROGRAM, IN A SANDBOX (cutbox-door.mjs). By AI agents, Wed Nov 11 2026. No macro, syntax, notation, axiom, sorry.
-/
import Derived.Test.YtnpjpelbcmgodaaGreatDoorRows
import GoSem.ClaimSeven
namespace Go.Proofs.YtnpjpelbcmgodaaGreatDoor
namespace Rows

/-- THE TIED CARD OF 'pledgelaw19.JournalPlays'. -/
def journalPlaysCard : Claim7 := { stood := { row := journalPlaysRow, standIns := [], harness := (true, "fefbd1a8669151ead1c62228b3245d636dbe5190c5ff84e9d43c7b4621b30903"), looks := false }, kinds := [], alts := [], laidByText := true, laidKinds := [.data], laidTests := true, laidLooks := .later }
def JournalPlaysCardSaid : Prop := Claim7.holds Tryz.pinned (.plain (OpenSpec.ofChange journalPlaysSpec)) journalPlaysCard

/-- THE TIED CARD OF 'pledgelaw20.CourseStraight'. -/
def courseStraightCard : Claim7 := { stood := { row := courseStraightRow, standIns := [], harness := (true, "fefbd1a8669151ead1c62228b3245d636dbe5190c5ff84e9d43c7b4621b30903"), looks := false }, kinds := [], alts := [], laidByText := true, laidKinds := [.data], laidTests := true, laidLooks := .later }
def CourseStraightCardSaid : Prop := Claim7.holds Tryz.pinned (.plain (OpenSpec.ofChange courseStraightSpec)) courseStraightCard

/-- THE SECOND FORM's CARD OF 'pledgelaw19.JournalPlays'. -/
def journalPlaysUptoCard : Claim7 := { stood := { row := journalPlaysUptoRow, standIns := [], harness := (true, "fefbd1a8669151ead1c62228b3245d636dbe5190c5ff84e9d43c7b4621b30903"), looks := false }, kinds := [], alts := [], laidByText := true, laidKinds := [.data], laidTests := true, laidLooks := .later }
def JournalPlaysUptoCardSaid : Prop := Claim7.holds Tryz.pinned (.plain (OpenSpec.upto journalPlaysSpec)) journalPlaysUptoCard

/-- THE SECOND FORM's CARD OF 'pledgelaw20.CourseStraight'. -/
def courseStraightUptoCard : Claim7 := { stood := { row := courseStraightUptoRow, standIns := [], harness := (true, "fefbd1a8669151ead1c62228b3245d636dbe5190c5ff84e9d43c7b4621b30903"), looks := false }, kinds := [], alts := [], laidByText := true, laidKinds := [.data], laidTests := true, laidLooks := .later }
def CourseStraightUptoCardSaid : Prop := Claim7.holds Tryz.pinned (.plain (OpenSpec.upto courseStraightSpec)) courseStraightUptoCard
end Rows
end Go.Proofs.YtnpjpelbcmgodaaGreatDoor
