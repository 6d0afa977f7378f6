/-
  DERIVED. GIVEN WITH THE SEED: THE CARDS: each row of YtclbkfpbdidaiaaGreatDoorRows.lean that lists a variable, with what it lists TIED to the program's text (the seventh form; the later family's looks); each row that meets fmt, with fmt's text TOLD by the authors' own Lean function (tested against real Go, not proved from fmt's source: count such statements apart). THE CARD IS WHAT COUNTS. Prove the row's statement (the work); the ties are given (YtclbkfpbdidaiaaGreatDoorTie.lean); close each card by the builder's one call (the guide's Derived/Test/ToyasCard.lean, 'card_holds'). Laid BY PROGRAM, IN A SANDBOX (cutbox-door.mjs). By AI agents, Wed Nov 11 2026. No macro, syntax, notation, axiom, sorry.
-/
import Derived.Test.YtclbkfpbdidaiaaGreatDoorRows
import GoSem.ClaimSeven
namespace Go.Proofs.YtclbkfpbdidaiaaGreatDoor
namespace Rows

/-- THE TIED CARD OF 'pledgelaw20.CourseStraight'. -/
def courseStraightCard : Claim7 := { stood := { row := courseStraightRow, standIns := [], harness := (true, "d23488a2d9f3639812b8f0b2a64719e2c5d33643c637469a12a8ea83c73dc403"), looks := false }, kinds := [], alts := [], laidByText := true, laidKinds := [.data], laidTests := true, laidLooks := .later }
def CourseStraightCardSaid : Prop := Claim7.holds Tryz.pinned (.plain (OpenSpec.ofChange courseStraightSpec)) courseStraightCard

/-- THE TIED CARD OF 'pledgelaw21.NeedSays'. -/
def needSaysCard : Claim7 := { stood := { row := needSaysRow, standIns := [], harness := (true, "d23488a2d9f3639812b8f0b2a64719e2c5d33643c637469a12a8ea83c73dc403"), looks := false }, kinds := [], alts := [], laidByText := true, laidKinds := [.data], laidTests := true, laidLooks := .later }
def NeedSaysCardSaid : Prop := Claim7.holds Tryz.pinned (.plain (OpenSpec.ofChange needSaysSpec)) needSaysCard

/-- THE TIED CARD OF 'pledgelaw21.NeedFalls'. -/
def needFallsCard : Claim7 := { stood := { row := needFallsRow, standIns := [], harness := (true, "d23488a2d9f3639812b8f0b2a64719e2c5d33643c637469a12a8ea83c73dc403"), looks := false }, kinds := [], alts := [], laidByText := true, laidKinds := [.data], laidTests := true, laidLooks := .later }
def NeedFallsCardSaid : Prop := Claim7.holds Tryz.pinned (.plain (OpenSpec.ofChange needFallsSpec)) needFallsCard

/-- THE TIED CARD OF 'pledgelaw21.NeedCrash'. -/
def needCrashCard : Claim7 := { stood := { row := needCrashRow, standIns := [], harness := (true, "d23488a2d9f3639812b8f0b2a64719e2c5d33643c637469a12a8ea83c73dc403"), looks := false }, kinds := [], alts := [], laidByText := true, laidKinds := [.data], laidTests := true, laidLooks := .later }
def NeedCrashCardSaid : Prop := Claim7.holds Tryz.pinned (.plain (OpenSpec.ofChange needCrashSpec)) needCrashCard

/-- THE SECOND FORM's CARD OF 'pledgelaw20.CourseStraight'. -/
def courseStraightUptoCard : Claim7 := { stood := { row := courseStraightUptoRow, standIns := [], harness := (true, "d23488a2d9f3639812b8f0b2a64719e2c5d33643c637469a12a8ea83c73dc403"), looks := false }, kinds := [], alts := [], laidByText := true, laidKinds := [.data], laidTests := true, laidLooks := .later }
def CourseStraightUptoCardSaid : Prop := Claim7.holds Tryz.pinned (.plain (OpenSpec.upto courseStraightSpec)) courseStraightUptoCard

/-- THE SECOND FORM's CARD OF 'pledgelaw21.NeedSays'. -/
def needSaysUptoCard : Claim7 := { stood := { row := needSaysUptoRow, standIns := [], harness := (true, "d23488a2d9f3639812b8f0b2a64719e2c5d33643c637469a12a8ea83c73dc403"), looks := false }, kinds := [], alts := [], laidByText := true, laidKinds := [.data], laidTests := true, laidLooks := .later }
def NeedSaysUptoCardSaid : Prop := Claim7.holds Tryz.pinned (.plain (OpenSpec.upto needSaysSpec)) needSaysUptoCard

/-- THE SECOND FORM's CARD OF 'pledgelaw21.NeedFalls'. -/
def needFallsUptoCard : Claim7 := { stood := { row := needFallsUptoRow, standIns := [], harness := (true, "d23488a2d9f3639812b8f0b2a64719e2c5d33643c637469a12a8ea83c73dc403"), looks := false }, kinds := [], alts := [], laidByText := true, laidKinds := [.data], laidTests := true, laidLooks := .later }
def NeedFallsUptoCardSaid : Prop := Claim7.holds Tryz.pinned (.plain (OpenSpec.upto needFallsSpec)) needFallsUptoCard

/-- THE SECOND FORM's CARD OF 'pledgelaw21.NeedCrash'. -/
def needCrashUptoCard : Claim7 := { stood := { row := needCrashUptoRow, standIns := [], harness := (true, "d23488a2d9f3639812b8f0b2a64719e2c5d33643c637469a12a8ea83c73dc403"), looks := false }, kinds := [], alts := [], laidByText := true, laidKinds := [.data], laidTests := true, laidLooks := .later }
def NeedCrashUptoCardSaid : Prop := Claim7.holds Tryz.pinned (.plain (OpenSpec.upto needCrashSpec)) needCrashUptoCard
end Rows
end Go.Proofs.YtclbkfpbdidaiaaGreatDoor
