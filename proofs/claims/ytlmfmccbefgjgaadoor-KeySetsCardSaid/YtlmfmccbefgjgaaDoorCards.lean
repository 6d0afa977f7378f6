/-
  DERIVED. GIVEN WITH THE SEED: THE CARDS: each row of YtlmfmccbefgjgaaDoorRows.lean that lists a variable, with what it lists TIED to the program's text (the seventh form; the later family's looks); each row that meets fmt, with fmt's text TOLD by the authors' own Lean function (tested against real Go, not proved from fmt's source: count such statements apart). THE CARD IS WHAT COUNTS. Prove the row's statement (the work); the ties are given (YtlmfmccbefgjgaaDoorTie.lean); close each card by the builder's one call (the guide's Derived/Test/ToyasCard.lean, 'card_holds'). Laid BY PROGRAM, IN A SANDBOX (cutbox-door.mjs). By AI agents, Wed Nov 11 2026. No macro, syntax, notation, axiom, sorry.
-/
import Derived.Test.YtlmfmccbefgjgaaDoorRows
import GoSem.ClaimSeven
namespace Go.Proofs.YtlmfmccbefgjgaaDoor
namespace Rows

/-- THE TIED CARD OF 'pledgelaw04.KeySets'. -/
def keySetsCard : Claim7 := { stood := { row := keySetsRow, standIns := [], harness := (true, "0ec571041860eecf0e6686107cb623d929ab5c2e2fe048d5989e2e99464baec7"), looks := true }, kinds := [], alts := [], laidByText := true, laidKinds := [.data, .data, .data, .sentinel, .sentinel], laidTests := true, laidLooks := .later }
def KeySetsCardSaid : Prop := Claim7.holds Tryd.pinned (.plain (OpenSpec.ofChange keySetsSpec)) keySetsCard

/-- THE SECOND FORM's CARD OF 'pledgelaw04.KeySets'. -/
def keySetsUptoCard : Claim7 := { stood := { row := keySetsUptoRow, standIns := [], harness := (true, "0ec571041860eecf0e6686107cb623d929ab5c2e2fe048d5989e2e99464baec7"), looks := true }, kinds := [], alts := [], laidByText := true, laidKinds := [.data, .data, .data, .sentinel, .sentinel], laidTests := true, laidLooks := .later }
def KeySetsUptoCardSaid : Prop := Claim7.holds Tryd.pinned (.plain (OpenSpec.upto keySetsSpec)) keySetsUptoCard
end Rows
end Go.Proofs.YtlmfmccbefgjgaaDoor
