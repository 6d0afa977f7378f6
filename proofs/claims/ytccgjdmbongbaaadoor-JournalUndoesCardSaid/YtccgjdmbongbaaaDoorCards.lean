/-
  DERIVED. GIVEN WITH THE SEED: THE CARDS: each row of YtccgjdmbongbaaaDoorRows.lean that lists a variable, with what it lists TIED to the program's text (the seventh form; the later family's looks); each row that meets fmt, with fmt's text TOLD by the authors' own Lean function (tested against real Go, not proved from fmt's source: count such statements apart). THE CARD IS WHAT COUNTS. Prove the row's statement (the work); the ties are given (YtccgjdmbongbaaaDoorTie.lean); close each card by the builder's one call (the guide's Derived/Test/ToyasCard.lean, 'card_holds'). Laid BY PROGRAM, IN A SANDBOX (cutbox-door.mjs). By AI agents, Wed Nov 11 2026. No macro, syntax, notation, axiom, sorry.
-/
import Derived.Test.YtccgjdmbongbaaaDoorRows
import GoSem.ClaimSeven
namespace Go.Proofs.YtccgjdmbongbaaaDoor
namespace Rows

/-- THE TIED CARD OF 'pledgelaw19.JournalAsks'. -/
def journalAsksCard : Claim7 := { stood := { row := journalAsksRow, standIns := [], harness := (true, "6b6f1ba26999216f2674a32deb60e6034aa4652913fcb5e059d2972a770fcd86"), looks := false }, kinds := [], alts := [], laidByText := true, laidKinds := [.data], laidTests := true, laidLooks := .later }
def JournalAsksCardSaid : Prop := Claim7.holds Tryd.pinned (.plain (OpenSpec.ofChange journalAsksSpec)) journalAsksCard

/-- THE TIED CARD OF 'pledgelaw19.JournalUndoes'. -/
def journalUndoesCard : Claim7 := { stood := { row := journalUndoesRow, standIns := [], harness := (true, "6b6f1ba26999216f2674a32deb60e6034aa4652913fcb5e059d2972a770fcd86"), looks := false }, kinds := [], alts := [], laidByText := true, laidKinds := [.data], laidTests := true, laidLooks := .later }
def JournalUndoesCardSaid : Prop := Claim7.holds Tryd.pinned (.plain (OpenSpec.ofChange journalUndoesSpec)) journalUndoesCard

/-- THE SECOND FORM's CARD OF 'pledgelaw19.JournalAsks'. -/
def journalAsksUptoCard : Claim7 := { stood := { row := journalAsksUptoRow, standIns := [], harness := (true, "6b6f1ba26999216f2674a32deb60e6034aa4652913fcb5e059d2972a770fcd86"), looks := false }, kinds := [], alts := [], laidByText := true, laidKinds := [.data], laidTests := true, laidLooks := .later }
def JournalAsksUptoCardSaid : Prop := Claim7.holds Tryd.pinned (.plain (OpenSpec.upto journalAsksSpec)) journalAsksUptoCard

/-- THE SECOND FORM's CARD OF 'pledgelaw19.JournalUndoes'. -/
def journalUndoesUptoCard : Claim7 := { stood := { row := journalUndoesUptoRow, standIns := [], harness := (true, "6b6f1ba26999216f2674a32deb60e6034aa4652913fcb5e059d2972a770fcd86"), looks := false }, kinds := [], alts := [], laidByText := true, laidKinds := [.data], laidTests := true, laidLooks := .later }
def JournalUndoesUptoCardSaid : Prop := Claim7.holds Tryd.pinned (.plain (OpenSpec.upto journalUndoesSpec)) journalUndoesUptoCard
end Rows
end Go.Proofs.YtccgjdmbongbaaaDoor
