/-
  NARROWER THAN 'FOR EVERY INPUT', by the rows' own cells (each row's printed sentence says how): ProgGood: laid · ProgSteps: laid · ProgBytes: laid · ProgBack: laid · ProgMoves: laid.
  DERIVED. THE GIVEN ROWS OF THIS SEAT. 5 by the template 'for every input the law returns true; each argument reads behind the call as it read before'; 0 by the template 'total and deterministic' (their statements: YtanndpmlpoplnaaDoorTotals.lean).
  GIVEN WITH THE SEED: the statements are not yours to turn. If you find one false, say at which input.
  Laid BY PROGRAM, IN A SANDBOX (cutbox-rows.mjs): the forced cells as the released guide's own fill.sh prints them over the translation c6d5493415fe9340… (all of the seat's roots in one cut). By AI agents, Wed Nov 11 2026. No macro, syntax, notation, axiom, sorry.
-/
import Derived.Test.YtanndpmlpoplnaaDoorChecked
import GoSem.Claim
import GoSem.ClaimJoined
import GoSem.ClaimMapViews
import Derived.JoinedTies
import Derived.KernelRfl
namespace Go.Proofs.YtanndpmlpoplnaaDoor
/- THE CELL 'sum', in the pinned program and in every row, IS THE sha256 OF THE DUMP (.gsa) THAT YtanndpmlpoplnaaDoorProg.lean LOADS. Nothing in Lean hashes anything: it is a label: what it is worth is what the hold of that sum in a sandbox is worth. -/
noncomputable def Tryd.pinned : Pinned := { name := "ytanndpmlpoplnaadoor", sum := "c6d5493415fe9340b425c7be5548b0e1a5086072ae19b21aa20e7ad6b190bbfe", checked := Tryd.checked }
namespace Rows
def none {H : Type} : Left H := { results := [], args := [] }

/- WHAT THE LISTED PACKAGE-LEVEL VARIABLES READ AS WHEN THE CALL BEGINS. Each datum BY PROGRAM (the guide's laid-datum.mjs) off the statement by which the dump's own 'gosem.cut.vars' lays the variable. In a bare row this is a premise. The card (YtanndpmlpoplnaaDoorCards.lean) ties it to the program's text. -/
def laid_pledge_step_words {H : Type} : DataW H := .agg [.lit (.string []), .lit (.string [116, 97, 107, 101]), .lit (.string [102, 114, 101, 101]), .lit (.string [115, 101, 110, 100]), .lit (.string [98, 97, 99, 107]), .lit (.string [112, 117, 116]), .lit (.string [100, 114, 97, 119]), .lit (.string [111, 119, 101]), .lit (.string [112, 97, 121])]

/-- 'pledgelaw13.ProgGood': WHATEVER THE INPUT: true; the input reads as it did. -/
def progGoodSpec : ChangeSpec := { name := "progGood", fn := fun _ => fun
  | [d1, d2, d3] => { results := [.lit (.bool true)], args := [d1, d2, d3] }
  | _ => none }
def progGoodRow : OpenClaim := { program := "ytanndpmlpoplnaadoor", sum := "c6d5493415fe9340b425c7be5548b0e1a5086072ae19b21aa20e7ad6b190bbfe", func := "pledge/pledgelaw13.ProgGood", spec := "progGood", inPlace := ["math/bits.Add64"], unfollowed := true, recurses := true, named := ["pledge/step.words"], plainKeys := false, apart := false, laid := [("pledge/step.words", laid_pledge_step_words)] }
def ProgGoodSaid : Prop := progGoodRow.holds Tryd.pinned (OpenSpec.ofChange progGoodSpec)

/-- ITS FALSE NEIGHBOUR: 'it returns false'. Refute it at one input. -/
def progGoodWrong : ChangeSpec := { name := "progGood", fn := fun _ => fun
  | [d1, d2, d3] => { results := [.lit (.bool false)], args := [d1, d2, d3] }
  | _ => none }
def ProgGoodWrongFalsely : Prop := progGoodRow.holds Tryd.pinned (OpenSpec.ofChange progGoodWrong)

/-- 'pledgelaw13.ProgSteps': WHATEVER THE INPUT: true; the input reads as it did. -/
def progStepsSpec : ChangeSpec := { name := "progSteps", fn := fun _ => fun
  | [d] => { results := [.lit (.bool true)], args := [d] }
  | _ => none }
def progStepsRow : OpenClaim := { program := "ytanndpmlpoplnaadoor", sum := "c6d5493415fe9340b425c7be5548b0e1a5086072ae19b21aa20e7ad6b190bbfe", func := "pledge/pledgelaw13.ProgSteps", spec := "progSteps", inPlace := ["math/bits.Add64"], unfollowed := true, recurses := true, named := ["pledge/step.words"], plainKeys := false, apart := false, laid := [("pledge/step.words", laid_pledge_step_words)] }
def ProgStepsSaid : Prop := progStepsRow.holds Tryd.pinned (OpenSpec.ofChange progStepsSpec)

/-- ITS FALSE NEIGHBOUR: 'it returns false'. Refute it at one input. -/
def progStepsWrong : ChangeSpec := { name := "progSteps", fn := fun _ => fun
  | [d] => { results := [.lit (.bool false)], args := [d] }
  | _ => none }
def ProgStepsWrongFalsely : Prop := progStepsRow.holds Tryd.pinned (OpenSpec.ofChange progStepsWrong)

/-- 'pledgelaw13.ProgBytes': WHATEVER THE INPUT: true; the input reads as it did. -/
def progBytesSpec : ChangeSpec := { name := "progBytes", fn := fun _ => fun
  | [d1, d2] => { results := [.lit (.bool true)], args := [d1, d2] }
  | _ => none }
def progBytesRow : OpenClaim := { program := "ytanndpmlpoplnaadoor", sum := "c6d5493415fe9340b425c7be5548b0e1a5086072ae19b21aa20e7ad6b190bbfe", func := "pledge/pledgelaw13.ProgBytes", spec := "progBytes", inPlace := ["math/bits.Add64"], unfollowed := true, recurses := true, named := ["pledge/step.words"], plainKeys := false, apart := false, laid := [("pledge/step.words", laid_pledge_step_words)] }
def ProgBytesSaid : Prop := progBytesRow.holds Tryd.pinned (OpenSpec.ofChange progBytesSpec)

/-- ITS FALSE NEIGHBOUR: 'it returns false'. Refute it at one input. -/
def progBytesWrong : ChangeSpec := { name := "progBytes", fn := fun _ => fun
  | [d1, d2] => { results := [.lit (.bool false)], args := [d1, d2] }
  | _ => none }
def ProgBytesWrongFalsely : Prop := progBytesRow.holds Tryd.pinned (OpenSpec.ofChange progBytesWrong)

/-- 'pledgelaw13.ProgBack': WHATEVER THE INPUT: true; the input reads as it did. -/
def progBackSpec : ChangeSpec := { name := "progBack", fn := fun _ => fun
  | [d1, d2] => { results := [.lit (.bool true)], args := [d1, d2] }
  | _ => none }
def progBackRow : OpenClaim := { program := "ytanndpmlpoplnaadoor", sum := "c6d5493415fe9340b425c7be5548b0e1a5086072ae19b21aa20e7ad6b190bbfe", func := "pledge/pledgelaw13.ProgBack", spec := "progBack", inPlace := ["math/bits.Add64"], unfollowed := true, recurses := true, named := ["pledge/step.words"], plainKeys := false, apart := false, laid := [("pledge/step.words", laid_pledge_step_words)] }
def ProgBackSaid : Prop := progBackRow.holds Tryd.pinned (OpenSpec.ofChange progBackSpec)

/-- ITS FALSE NEIGHBOUR: 'it returns false'. Refute it at one input. -/
def progBackWrong : ChangeSpec := { name := "progBack", fn := fun _ => fun
  | [d1, d2] => { results := [.lit (.bool false)], args := [d1, d2] }
  | _ => none }
def ProgBackWrongFalsely : Prop := progBackRow.holds Tryd.pinned (OpenSpec.ofChange progBackWrong)

/-- 'pledgelaw13.ProgMoves': WHATEVER THE INPUT: true; the input reads as it did. -/
def progMovesSpec : ChangeSpec := { name := "progMoves", fn := fun _ => fun
  | [d] => { results := [.lit (.bool true)], args := [d] }
  | _ => none }
def progMovesRow : OpenClaim := { program := "ytanndpmlpoplnaadoor", sum := "c6d5493415fe9340b425c7be5548b0e1a5086072ae19b21aa20e7ad6b190bbfe", func := "pledge/pledgelaw13.ProgMoves", spec := "progMoves", inPlace := ["math/bits.Add64"], unfollowed := true, recurses := true, named := ["pledge/step.words"], plainKeys := false, apart := false, laid := [("pledge/step.words", laid_pledge_step_words)] }
def ProgMovesSaid : Prop := progMovesRow.holds Tryd.pinned (OpenSpec.ofChange progMovesSpec)

/-- ITS FALSE NEIGHBOUR: 'it returns false'. Refute it at one input. -/
def progMovesWrong : ChangeSpec := { name := "progMoves", fn := fun _ => fun
  | [d] => { results := [.lit (.bool false)], args := [d] }
  | _ => none }
def ProgMovesWrongFalsely : Prop := progMovesRow.holds Tryd.pinned (OpenSpec.ofChange progMovesWrong)

/- THE SECOND FORM. 'bulk': how many values and letters a reading holds, each counted each time it is reached (what is shared counts as often as it is met; a slice's spare places count too). A statement '..UptoSaid' is the law's where the arguments, and the package variables that the reading takes, are together of bulk at most 1048576: NARROWER than '..Said'. Prove '..Said' where nothing that the law and all that it calls make is longer than what came in: it says more and counts as full. Else prove '..UptoSaid'. A law counts once. -/
mutual
def uptoBulk {H : Type} : DataW H → Nat
  | .lit (.string bytes) => bytes.length + 1
  | .lit _ => 1
  | .nil => 1
  | .ptr d => uptoBulk d + 1
  | .slice elems spare => uptoBulkAll elems + uptoBulkAll spare + 1
  | .agg parts => uptoBulkAll parts + 1
  | .iface _ d => uptoBulk d + 1
  | .map entries => uptoBulkEntries entries + 1
  | .held _ => 1
def uptoBulkAll {H : Type} : List (DataW H) → Nat
  | [] => 0
  | d :: r => uptoBulk d + uptoBulkAll r
def uptoBulkEntries {H : Type} : List (Lit × DataW H) → Nat
  | [] => 0
  | x :: r => uptoBulkEntry x + uptoBulkEntries r
def uptoBulkEntry {H : Type} : Lit × DataW H → Nat
  | (.string bytes, d) => bytes.length + uptoBulk d + 1
  | (_, d) => uptoBulk d + 1
 end
def uptoSmall : (H : Type) → List (DataW H) → Bool := fun _ ds => decide (uptoBulkAll ds ≤ 1048576)
def OpenSpec.upto (s : _root_.Go.ChangeSpec) : _root_.Go.OpenSpec := { _root_.Go.OpenSpec.ofChange s with cond := some uptoSmall }

/-- 'pledgelaw13.ProgGood', WHERE WHAT IT READS IS OF BULK AT MOST 1048576: true; the input reads as it did. -/
def progGoodUptoRow : OpenClaim := { program := "ytanndpmlpoplnaadoor", sum := "c6d5493415fe9340b425c7be5548b0e1a5086072ae19b21aa20e7ad6b190bbfe", func := "pledge/pledgelaw13.ProgGood", spec := "progGood", inPlace := ["math/bits.Add64"], unfollowed := true, recurses := true, named := ["pledge/step.words"], plainKeys := false, apart := false, laid := [("pledge/step.words", laid_pledge_step_words)], narrowed := true }
def ProgGoodUptoSaid : Prop := progGoodUptoRow.holds Tryd.pinned (OpenSpec.upto progGoodSpec)

/-- 'pledgelaw13.ProgSteps', WHERE WHAT IT READS IS OF BULK AT MOST 1048576: true; the input reads as it did. -/
def progStepsUptoRow : OpenClaim := { program := "ytanndpmlpoplnaadoor", sum := "c6d5493415fe9340b425c7be5548b0e1a5086072ae19b21aa20e7ad6b190bbfe", func := "pledge/pledgelaw13.ProgSteps", spec := "progSteps", inPlace := ["math/bits.Add64"], unfollowed := true, recurses := true, named := ["pledge/step.words"], plainKeys := false, apart := false, laid := [("pledge/step.words", laid_pledge_step_words)], narrowed := true }
def ProgStepsUptoSaid : Prop := progStepsUptoRow.holds Tryd.pinned (OpenSpec.upto progStepsSpec)

/-- 'pledgelaw13.ProgBytes', WHERE WHAT IT READS IS OF BULK AT MOST 1048576: true; the input reads as it did. -/
def progBytesUptoRow : OpenClaim := { program := "ytanndpmlpoplnaadoor", sum := "c6d5493415fe9340b425c7be5548b0e1a5086072ae19b21aa20e7ad6b190bbfe", func := "pledge/pledgelaw13.ProgBytes", spec := "progBytes", inPlace := ["math/bits.Add64"], unfollowed := true, recurses := true, named := ["pledge/step.words"], plainKeys := false, apart := false, laid := [("pledge/step.words", laid_pledge_step_words)], narrowed := true }
def ProgBytesUptoSaid : Prop := progBytesUptoRow.holds Tryd.pinned (OpenSpec.upto progBytesSpec)

/-- 'pledgelaw13.ProgBack', WHERE WHAT IT READS IS OF BULK AT MOST 1048576: true; the input reads as it did. -/
def progBackUptoRow : OpenClaim := { program := "ytanndpmlpoplnaadoor", sum := "c6d5493415fe9340b425c7be5548b0e1a5086072ae19b21aa20e7ad6b190bbfe", func := "pledge/pledgelaw13.ProgBack", spec := "progBack", inPlace := ["math/bits.Add64"], unfollowed := true, recurses := true, named := ["pledge/step.words"], plainKeys := false, apart := false, laid := [("pledge/step.words", laid_pledge_step_words)], narrowed := true }
def ProgBackUptoSaid : Prop := progBackUptoRow.holds Tryd.pinned (OpenSpec.upto progBackSpec)

/-- 'pledgelaw13.ProgMoves', WHERE WHAT IT READS IS OF BULK AT MOST 1048576: true; the input reads as it did. -/
def progMovesUptoRow : OpenClaim := { program := "ytanndpmlpoplnaadoor", sum := "c6d5493415fe9340b425c7be5548b0e1a5086072ae19b21aa20e7ad6b190bbfe", func := "pledge/pledgelaw13.ProgMoves", spec := "progMoves", inPlace := ["math/bits.Add64"], unfollowed := true, recurses := true, named := ["pledge/step.words"], plainKeys := false, apart := false, laid := [("pledge/step.words", laid_pledge_step_words)], narrowed := true }
def ProgMovesUptoSaid : Prop := progMovesUptoRow.holds Tryd.pinned (OpenSpec.upto progMovesSpec)

end Rows
end Go.Proofs.YtanndpmlpoplnaaDoor
