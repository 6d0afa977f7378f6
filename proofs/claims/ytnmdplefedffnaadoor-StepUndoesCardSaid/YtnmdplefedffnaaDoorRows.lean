/-
  NARROWER THAN 'FOR EVERY INPUT', by the rows' own cells (each row's printed sentence says how): StepGood: laid · StepDoes: laid · StepSame: laid · StepUndoes: laid · StepPairs: laid.
  DERIVED. THE GIVEN ROWS OF THIS SEAT. 5 by the template 'for every input the law returns true; each argument reads behind the call as it read before'; 0 by the template 'total and deterministic' (their statements: YtnmdplefedffnaaDoorTotals.lean).
  GIVEN WITH THE SEED: the statements are not yours to turn. If you find one false, say at which input.
  Laid BY PROGRAM, IN A SANDBOX (cutbox-rows.mjs): the forced cells as the released guide's own fill.sh prints them over the translation 636f75f20c7fd140… (all of the seat's roots in one cut). By AI agents, Wed Nov 11 2026. No macro, syntax, notation, axiom, sorry.
-/
import Derived.Test.YtnmdplefedffnaaDoorChecked
import GoSem.Claim
import GoSem.ClaimJoined
import GoSem.ClaimMapViews
import Derived.JoinedTies
import Derived.KernelRfl
namespace Go.Proofs.YtnmdplefedffnaaDoor
/- THE CELL 'sum', in the pinned program and in every row, IS THE sha256 OF THE DUMP (.gsa) THAT YtnmdplefedffnaaDoorProg.lean LOADS. Nothing in Lean hashes anything: it is a label: what it is worth is what the hold of that sum in a sandbox is worth. -/
noncomputable def Tryd.pinned : Pinned := { name := "ytnmdplefedffnaadoor", sum := "636f75f20c7fd140a328d82bd146bd07a23b477f15c857146ed27bf6b1684d9e", checked := Tryd.checked }
namespace Rows
def none {H : Type} : Left H := { results := [], args := [] }

/- WHAT THE LISTED PACKAGE-LEVEL VARIABLES READ AS WHEN THE CALL BEGINS. Each datum BY PROGRAM (the guide's laid-datum.mjs) off the statement by which the dump's own 'gosem.cut.vars' lays the variable. In a bare row this is a premise. The card (YtnmdplefedffnaaDoorCards.lean) ties it to the program's text. -/
def laid_pledge_step_words {H : Type} : DataW H := .agg [.lit (.string []), .lit (.string [116, 97, 107, 101]), .lit (.string [102, 114, 101, 101]), .lit (.string [115, 101, 110, 100]), .lit (.string [98, 97, 99, 107]), .lit (.string [112, 117, 116]), .lit (.string [100, 114, 97, 119]), .lit (.string [111, 119, 101]), .lit (.string [112, 97, 121])]

/-- 'pledgelaw12.StepGood': WHATEVER THE INPUT: true; the input reads as it did. -/
def stepGoodSpec : ChangeSpec := { name := "stepGood", fn := fun _ => fun
  | [d1, d2, d3] => { results := [.lit (.bool true)], args := [d1, d2, d3] }
  | _ => none }
def stepGoodRow : OpenClaim := { program := "ytnmdplefedffnaadoor", sum := "636f75f20c7fd140a328d82bd146bd07a23b477f15c857146ed27bf6b1684d9e", func := "pledge/pledgelaw12.StepGood", spec := "stepGood", named := ["pledge/step.words"], plainKeys := false, apart := false, laid := [("pledge/step.words", laid_pledge_step_words)] }
def StepGoodSaid : Prop := stepGoodRow.holds Tryd.pinned (OpenSpec.ofChange stepGoodSpec)

/-- ITS FALSE NEIGHBOUR: 'it returns false'. Refute it at one input. -/
def stepGoodWrong : ChangeSpec := { name := "stepGood", fn := fun _ => fun
  | [d1, d2, d3] => { results := [.lit (.bool false)], args := [d1, d2, d3] }
  | _ => none }
def StepGoodWrongFalsely : Prop := stepGoodRow.holds Tryd.pinned (OpenSpec.ofChange stepGoodWrong)

/-- 'pledgelaw12.StepDoes': WHATEVER THE INPUT: true; the input reads as it did. -/
def stepDoesSpec : ChangeSpec := { name := "stepDoes", fn := fun _ => fun
  | [d] => { results := [.lit (.bool true)], args := [d] }
  | _ => none }
def stepDoesRow : OpenClaim := { program := "ytnmdplefedffnaadoor", sum := "636f75f20c7fd140a328d82bd146bd07a23b477f15c857146ed27bf6b1684d9e", func := "pledge/pledgelaw12.StepDoes", spec := "stepDoes", unfollowed := true, recurses := true, named := ["pledge/step.words"], plainKeys := false, apart := false, laid := [("pledge/step.words", laid_pledge_step_words)] }
def StepDoesSaid : Prop := stepDoesRow.holds Tryd.pinned (OpenSpec.ofChange stepDoesSpec)

/-- ITS FALSE NEIGHBOUR: 'it returns false'. Refute it at one input. -/
def stepDoesWrong : ChangeSpec := { name := "stepDoes", fn := fun _ => fun
  | [d] => { results := [.lit (.bool false)], args := [d] }
  | _ => none }
def StepDoesWrongFalsely : Prop := stepDoesRow.holds Tryd.pinned (OpenSpec.ofChange stepDoesWrong)

/-- 'pledgelaw12.StepSame': WHATEVER THE INPUT: true; the input reads as it did. -/
def stepSameSpec : ChangeSpec := { name := "stepSame", fn := fun _ => fun
  | [d1, d2] => { results := [.lit (.bool true)], args := [d1, d2] }
  | _ => none }
def stepSameRow : OpenClaim := { program := "ytnmdplefedffnaadoor", sum := "636f75f20c7fd140a328d82bd146bd07a23b477f15c857146ed27bf6b1684d9e", func := "pledge/pledgelaw12.StepSame", spec := "stepSame", named := ["pledge/step.words"], plainKeys := false, apart := false, laid := [("pledge/step.words", laid_pledge_step_words)] }
def StepSameSaid : Prop := stepSameRow.holds Tryd.pinned (OpenSpec.ofChange stepSameSpec)

/-- ITS FALSE NEIGHBOUR: 'it returns false'. Refute it at one input. -/
def stepSameWrong : ChangeSpec := { name := "stepSame", fn := fun _ => fun
  | [d1, d2] => { results := [.lit (.bool false)], args := [d1, d2] }
  | _ => none }
def StepSameWrongFalsely : Prop := stepSameRow.holds Tryd.pinned (OpenSpec.ofChange stepSameWrong)

/-- 'pledgelaw12.StepUndoes': WHATEVER THE INPUT: true; the input reads as it did. -/
def stepUndoesSpec : ChangeSpec := { name := "stepUndoes", fn := fun _ => fun
  | [d1, d2, d3] => { results := [.lit (.bool true)], args := [d1, d2, d3] }
  | _ => none }
def stepUndoesRow : OpenClaim := { program := "ytnmdplefedffnaadoor", sum := "636f75f20c7fd140a328d82bd146bd07a23b477f15c857146ed27bf6b1684d9e", func := "pledge/pledgelaw12.StepUndoes", spec := "stepUndoes", inPlace := ["math/bits.Add64"], unfollowed := true, recurses := true, named := ["pledge/step.words"], plainKeys := false, apart := false, laid := [("pledge/step.words", laid_pledge_step_words)] }
def StepUndoesSaid : Prop := stepUndoesRow.holds Tryd.pinned (OpenSpec.ofChange stepUndoesSpec)

/-- ITS FALSE NEIGHBOUR: 'it returns false'. Refute it at one input. -/
def stepUndoesWrong : ChangeSpec := { name := "stepUndoes", fn := fun _ => fun
  | [d1, d2, d3] => { results := [.lit (.bool false)], args := [d1, d2, d3] }
  | _ => none }
def StepUndoesWrongFalsely : Prop := stepUndoesRow.holds Tryd.pinned (OpenSpec.ofChange stepUndoesWrong)

/-- 'pledgelaw12.StepPairs': WHATEVER THE INPUT: true; the input reads as it did. -/
def stepPairsSpec : ChangeSpec := { name := "stepPairs", fn := fun _ => fun
  | [d1, d2] => { results := [.lit (.bool true)], args := [d1, d2] }
  | _ => none }
def stepPairsRow : OpenClaim := { program := "ytnmdplefedffnaadoor", sum := "636f75f20c7fd140a328d82bd146bd07a23b477f15c857146ed27bf6b1684d9e", func := "pledge/pledgelaw12.StepPairs", spec := "stepPairs", inPlace := ["math/bits.Add64"], unfollowed := true, recurses := true, named := ["pledge/step.words"], plainKeys := false, apart := false, laid := [("pledge/step.words", laid_pledge_step_words)] }
def StepPairsSaid : Prop := stepPairsRow.holds Tryd.pinned (OpenSpec.ofChange stepPairsSpec)

/-- ITS FALSE NEIGHBOUR: 'it returns false'. Refute it at one input. -/
def stepPairsWrong : ChangeSpec := { name := "stepPairs", fn := fun _ => fun
  | [d1, d2] => { results := [.lit (.bool false)], args := [d1, d2] }
  | _ => none }
def StepPairsWrongFalsely : Prop := stepPairsRow.holds Tryd.pinned (OpenSpec.ofChange stepPairsWrong)

/- THE SECOND FORM. 'bulk': how many values and letters a reading holds, each counted each time it is reached (what is shared counts as often as it is met; a slice's spare places count too). A statement '..UptoSaid' is the law's where the arguments, and the package variables that the reading takes, are together of bulk at most 1048576: NARROWER than '..Said'. Prove '..Said' where nothing that the law and all that it calls make is longer than what came in: it says more and counts as full. Else prove '..UptoSaid'. A law counts once. -/
mutual
def uptoBulk {H : Type} : DataW H → Nat
  | .lit (.string bytes) => bytes.length + 1
  | .lit _ => 1
  | .nil => 1
  | .ptr d => uptoBulk d + 1
  | .slice elems spare => uptoBulkAll elems + uptoBulkAll spare + 1
  | .agg parts => uptoBulkAll parts + 1
  | .iface _ d => uptoBulk d + 1
  | .map entries => uptoBulkEntries entries + 1
  | .held _ => 1
def uptoBulkAll {H : Type} : List (DataW H) → Nat
  | [] => 0
  | d :: r => uptoBulk d + uptoBulkAll r
def uptoBulkEntries {H : Type} : List (Lit × DataW H) → Nat
  | [] => 0
  | x :: r => uptoBulkEntry x + uptoBulkEntries r
def uptoBulkEntry {H : Type} : Lit × DataW H → Nat
  | (.string bytes, d) => bytes.length + uptoBulk d + 1
  | (_, d) => uptoBulk d + 1
 end
def uptoSmall : (H : Type) → List (DataW H) → Bool := fun _ ds => decide (uptoBulkAll ds ≤ 1048576)
def OpenSpec.upto (s : _root_.Go.ChangeSpec) : _root_.Go.OpenSpec := { _root_.Go.OpenSpec.ofChange s with cond := some uptoSmall }

/-- 'pledgelaw12.StepGood', WHERE WHAT IT READS IS OF BULK AT MOST 1048576: true; the input reads as it did. -/
def stepGoodUptoRow : OpenClaim := { program := "ytnmdplefedffnaadoor", sum := "636f75f20c7fd140a328d82bd146bd07a23b477f15c857146ed27bf6b1684d9e", func := "pledge/pledgelaw12.StepGood", spec := "stepGood", named := ["pledge/step.words"], plainKeys := false, apart := false, laid := [("pledge/step.words", laid_pledge_step_words)], narrowed := true }
def StepGoodUptoSaid : Prop := stepGoodUptoRow.holds Tryd.pinned (OpenSpec.upto stepGoodSpec)

/-- 'pledgelaw12.StepDoes', WHERE WHAT IT READS IS OF BULK AT MOST 1048576: true; the input reads as it did. -/
def stepDoesUptoRow : OpenClaim := { program := "ytnmdplefedffnaadoor", sum := "636f75f20c7fd140a328d82bd146bd07a23b477f15c857146ed27bf6b1684d9e", func := "pledge/pledgelaw12.StepDoes", spec := "stepDoes", unfollowed := true, recurses := true, named := ["pledge/step.words"], plainKeys := false, apart := false, laid := [("pledge/step.words", laid_pledge_step_words)], narrowed := true }
def StepDoesUptoSaid : Prop := stepDoesUptoRow.holds Tryd.pinned (OpenSpec.upto stepDoesSpec)

/-- 'pledgelaw12.StepSame', WHERE WHAT IT READS IS OF BULK AT MOST 1048576: true; the input reads as it did. -/
def stepSameUptoRow : OpenClaim := { program := "ytnmdplefedffnaadoor", sum := "636f75f20c7fd140a328d82bd146bd07a23b477f15c857146ed27bf6b1684d9e", func := "pledge/pledgelaw12.StepSame", spec := "stepSame", named := ["pledge/step.words"], plainKeys := false, apart := false, laid := [("pledge/step.words", laid_pledge_step_words)], narrowed := true }
def StepSameUptoSaid : Prop := stepSameUptoRow.holds Tryd.pinned (OpenSpec.upto stepSameSpec)

/-- 'pledgelaw12.StepUndoes', WHERE WHAT IT READS IS OF BULK AT MOST 1048576: true; the input reads as it did. -/
def stepUndoesUptoRow : OpenClaim := { program := "ytnmdplefedffnaadoor", sum := "636f75f20c7fd140a328d82bd146bd07a23b477f15c857146ed27bf6b1684d9e", func := "pledge/pledgelaw12.StepUndoes", spec := "stepUndoes", inPlace := ["math/bits.Add64"], unfollowed := true, recurses := true, named := ["pledge/step.words"], plainKeys := false, apart := false, laid := [("pledge/step.words", laid_pledge_step_words)], narrowed := true }
def StepUndoesUptoSaid : Prop := stepUndoesUptoRow.holds Tryd.pinned (OpenSpec.upto stepUndoesSpec)

/-- 'pledgelaw12.StepPairs', WHERE WHAT IT READS IS OF BULK AT MOST 1048576: true; the input reads as it did. -/
def stepPairsUptoRow : OpenClaim := { program := "ytnmdplefedffnaadoor", sum := "636f75f20c7fd140a328d82bd146bd07a23b477f15c857146ed27bf6b1684d9e", func := "pledge/pledgelaw12.StepPairs", spec := "stepPairs", inPlace := ["math/bits.Add64"], unfollowed := true, recurses := true, named := ["pledge/step.words"], plainKeys := false, apart := false, laid := [("pledge/step.words", laid_pledge_step_words)], narrowed := true }
def StepPairsUptoSaid : Prop := stepPairsUptoRow.holds Tryd.pinned (OpenSpec.upto stepPairsSpec)

end Rows
end Go.Proofs.YtnmdplefedffnaaDoor
