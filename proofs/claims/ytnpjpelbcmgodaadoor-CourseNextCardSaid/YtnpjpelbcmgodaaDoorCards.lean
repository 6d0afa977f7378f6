/-
  DERIVED. GIVEN WITH THE SEED: THE CARDS: each row of YtnpjpelbcmgodaaDoorRows.lean that lists a variable, with what it lists TIED to the program's text (the seventh form; the later family's looks); each row that meets fmt, with fmt's text TOLD by the authors' own Lean function (tested against real Go, not proved from fmt's source: count such statements apart). THE CARD IS WHAT COUNTS. Prove the row's statement (the work); the ties are given (YtnpjpelbcmgodaaDoorTie.lean); close each card by the builder's one call (the guide's Derived/Test/ToyasCard.lean, 'card_holds'). Laid BY PROGRAM, IN A SANDBOX (cutbox-door.mjs). By AI agents, Wed Nov 11 2026. No macro, syntax, notation, axiom, sorry.
-/
import Derived.Test.YtnpjpelbcmgodaaDoorRows
import GoSem.ClaimSeven
namespace Go.Proofs.YtnpjpelbcmgodaaDoor
namespace Rows

/-- THE TIED CARD OF 'pledgelaw20.CourseDoes'. -/
def courseDoesCard : Claim7 := { stood := { row := courseDoesRow, standIns := [], harness := (true, "dcca0687370ca21aefca237c1c43589c892a579eb8eeea627bb8cc431c2f8e97"), looks := false }, kinds := [], alts := [], laidByText := true, laidKinds := [.data], laidTests := true, laidLooks := .later }
def CourseDoesCardSaid : Prop := Claim7.holds Tryd.pinned (.plain (OpenSpec.ofChange courseDoesSpec)) courseDoesCard

/-- THE TIED CARD OF 'pledgelaw20.CourseNext'. -/
def courseNextCard : Claim7 := { stood := { row := courseNextRow, standIns := [], harness := (true, "dcca0687370ca21aefca237c1c43589c892a579eb8eeea627bb8cc431c2f8e97"), looks := false }, kinds := [], alts := [], laidByText := true, laidKinds := [.data], laidTests := true, laidLooks := .later }
def CourseNextCardSaid : Prop := Claim7.holds Tryd.pinned (.plain (OpenSpec.ofChange courseNextSpec)) courseNextCard

/-- THE TIED CARD OF 'pledgelaw20.CourseSame'. -/
def courseSameCard : Claim7 := { stood := { row := courseSameRow, standIns := [], harness := (true, "dcca0687370ca21aefca237c1c43589c892a579eb8eeea627bb8cc431c2f8e97"), looks := false }, kinds := [], alts := [], laidByText := true, laidKinds := [.data], laidTests := true, laidLooks := .later }
def CourseSameCardSaid : Prop := Claim7.holds Tryd.pinned (.plain (OpenSpec.ofChange courseSameSpec)) courseSameCard

/-- THE SECOND FORM's CARD OF 'pledgelaw20.CourseDoes'. -/
def courseDoesUptoCard : Claim7 := { stood := { row := courseDoesUptoRow, standIns := [], harness := (true, "dcca0687370ca21aefca237c1c43589c892a579eb8eeea627bb8cc431c2f8e97"), looks := false }, kinds := [], alts := [], laidByText := true, laidKinds := [.data], laidTests := true, laidLooks := .later }
def CourseDoesUptoCardSaid : Prop := Claim7.holds Tryd.pinned (.plain (OpenSpec.upto courseDoesSpec)) courseDoesUptoCard

/-- THE SECOND FORM's CARD OF 'pledgelaw20.CourseNext'. -/
def courseNextUptoCard : Claim7 := { stood := { row := courseNextUptoRow, standIns := [], harness := (true, "dcca0687370ca21aefca237c1c43589c892a579eb8eeea627bb8cc431c2f8e97"), looks := false }, kinds := [], alts := [], laidByText := true, laidKinds := [.data], laidTests := true, laidLooks := .later }
def CourseNextUptoCardSaid : Prop := Claim7.holds Tryd.pinned (.plain (OpenSpec.upto courseNextSpec)) courseNextUptoCard

/-- THE SECOND FORM's CARD OF 'pledgelaw20.CourseSame'. -/
def courseSameUptoCard : Claim7 := { stood := { row := courseSameUptoRow, standIns := [], harness := (true, "dcca0687370ca21aefca237c1c43589c892a579eb8eeea627bb8cc431c2f8e97"), looks := false }, kinds := [], alts := [], laidByText := true, laidKinds := [.data], laidTests := true, laidLooks := .later }
def CourseSameUptoCardSaid : Prop := Claim7.holds Tryd.pinned (.plain (OpenSpec.upto courseSameSpec)) courseSameUptoCard
end Rows
end Go.Proofs.YtnpjpelbcmgodaaDoor
