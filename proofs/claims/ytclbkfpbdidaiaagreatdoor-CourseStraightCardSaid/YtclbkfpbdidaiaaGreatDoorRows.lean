/-
  NARROWER THAN 'FOR EVERY INPUT', by the rows' own cells (each row's printed sentence says how): CourseStraight: laid · NeedSays: laid · NeedFalls: laid · NeedCrash: laid.
  DERIVED. THE GIVEN ROWS OF THIS SEAT. 4 by the template 'for every input the law returns true; each argument reads behind the call as it read before'; 0 by the template 'total and deterministic' (their statements: YtclbkfpbdidaiaaGreatDoorTotals.lean).
  GIVEN WITH THE SEED: the statements are not yours to turn. If you find one false, say at which input.
  Laid BY PROGRAM, IN A SANDBOX (cutbox-rows.mjs): the forced cells as the released guide's own fill.sh prints them over the translation 2f83ff7a9df42467… (all of the seat's roots in one cut). By AI agents, Wed Nov 11 2026. No macro, syntax, notation, axiom, sorry.
-/
import Derived.Test.YtclbkfpbdidaiaaGreatDoorChecked
import GoSem.Claim
import GoSem.ClaimJoined
import GoSem.ClaimMapViews
import Derived.JoinedTies
import Derived.KernelRfl
namespace Go.Proofs.YtclbkfpbdidaiaaGreatDoor
/- THE CELL 'sum', in the pinned program and in every row, IS THE sha256 OF THE DUMP (.gsa) THAT YtclbkfpbdidaiaaGreatDoorProg.lean LOADS. Nothing in Lean hashes anything: it is a label: what it is worth is what the hold of that sum in a sandbox is worth. -/
noncomputable def Tryz.pinned : Pinned := { name := "ytclbkfpbdidaiaagreatdoor", sum := "2f83ff7a9df424674fe3ecabf44c3c6e607b4564ca7ddc96db4bca838be24ba6", checked := Tryz.checked }
namespace Rows
def none {H : Type} : Left H := { results := [], args := [] }

/- WHAT THE LISTED PACKAGE-LEVEL VARIABLES READ AS WHEN THE CALL BEGINS. Each datum BY PROGRAM (the guide's laid-datum.mjs) off the statement by which the dump's own 'gosem.cut.vars' lays the variable. In a bare row this is a premise. The card (YtclbkfpbdidaiaaGreatDoorCards.lean) ties it to the program's text. -/
def laid_pledge_step_words {H : Type} : DataW H := .agg [.lit (.string []), .lit (.string [116, 97, 107, 101]), .lit (.string [102, 114, 101, 101]), .lit (.string [115, 101, 110, 100]), .lit (.string [98, 97, 99, 107]), .lit (.string [112, 117, 116]), .lit (.string [100, 114, 97, 119]), .lit (.string [111, 119, 101]), .lit (.string [112, 97, 121])]

/-- 'pledgelaw20.CourseStraight': WHATEVER THE INPUT: true; the input reads as it did. -/
def courseStraightSpec : ChangeSpec := { name := "courseStraight", fn := fun _ => fun
  | [d] => { results := [.lit (.bool true)], args := [d] }
  | _ => none }
def courseStraightRow : OpenClaim := { program := "ytclbkfpbdidaiaagreatdoor", sum := "2f83ff7a9df424674fe3ecabf44c3c6e607b4564ca7ddc96db4bca838be24ba6", func := "pledge/pledgelaw20.CourseStraight", spec := "courseStraight", inPlace := ["math/bits.Add64"], unfollowed := true, recurses := true, named := ["pledge/step.words"], apart := false, laid := [("pledge/step.words", laid_pledge_step_words)] }
def CourseStraightSaid : Prop := courseStraightRow.holds Tryz.pinned (OpenSpec.ofChange courseStraightSpec)

/-- ITS FALSE NEIGHBOUR: 'it returns false'. Refute it at one input. -/
def courseStraightWrong : ChangeSpec := { name := "courseStraight", fn := fun _ => fun
  | [d] => { results := [.lit (.bool false)], args := [d] }
  | _ => none }
def CourseStraightWrongFalsely : Prop := courseStraightRow.holds Tryz.pinned (OpenSpec.ofChange courseStraightWrong)

/-- 'pledgelaw21.NeedSays': WHATEVER THE INPUT: true; the input reads as it did. -/
def needSaysSpec : ChangeSpec := { name := "needSays", fn := fun _ => fun
  | [d1, d2, d3] => { results := [.lit (.bool true)], args := [d1, d2, d3] }
  | _ => none }
def needSaysRow : OpenClaim := { program := "ytclbkfpbdidaiaagreatdoor", sum := "2f83ff7a9df424674fe3ecabf44c3c6e607b4564ca7ddc96db4bca838be24ba6", func := "pledge/pledgelaw21.NeedSays", spec := "needSays", inPlace := ["math/bits.Add64"], unfollowed := true, recurses := true, named := ["pledge/step.words"], apart := false, laid := [("pledge/step.words", laid_pledge_step_words)] }
def NeedSaysSaid : Prop := needSaysRow.holds Tryz.pinned (OpenSpec.ofChange needSaysSpec)

/-- ITS FALSE NEIGHBOUR: 'it returns false'. Refute it at one input. -/
def needSaysWrong : ChangeSpec := { name := "needSays", fn := fun _ => fun
  | [d1, d2, d3] => { results := [.lit (.bool false)], args := [d1, d2, d3] }
  | _ => none }
def NeedSaysWrongFalsely : Prop := needSaysRow.holds Tryz.pinned (OpenSpec.ofChange needSaysWrong)

/-- 'pledgelaw21.NeedFalls': WHATEVER THE INPUT: true; the input reads as it did. -/
def needFallsSpec : ChangeSpec := { name := "needFalls", fn := fun _ => fun
  | [d] => { results := [.lit (.bool true)], args := [d] }
  | _ => none }
def needFallsRow : OpenClaim := { program := "ytclbkfpbdidaiaagreatdoor", sum := "2f83ff7a9df424674fe3ecabf44c3c6e607b4564ca7ddc96db4bca838be24ba6", func := "pledge/pledgelaw21.NeedFalls", spec := "needFalls", inPlace := ["math/bits.Add64"], unfollowed := true, recurses := true, named := ["pledge/step.words"], apart := false, laid := [("pledge/step.words", laid_pledge_step_words)] }
def NeedFallsSaid : Prop := needFallsRow.holds Tryz.pinned (OpenSpec.ofChange needFallsSpec)

/-- ITS FALSE NEIGHBOUR: 'it returns false'. Refute it at one input. -/
def needFallsWrong : ChangeSpec := { name := "needFalls", fn := fun _ => fun
  | [d] => { results := [.lit (.bool false)], args := [d] }
  | _ => none }
def NeedFallsWrongFalsely : Prop := needFallsRow.holds Tryz.pinned (OpenSpec.ofChange needFallsWrong)

/-- 'pledgelaw21.NeedCrash': WHATEVER THE INPUT: true; the input reads as it did. -/
def needCrashSpec : ChangeSpec := { name := "needCrash", fn := fun _ => fun
  | [d1, d2] => { results := [.lit (.bool true)], args := [d1, d2] }
  | _ => none }
def needCrashRow : OpenClaim := { program := "ytclbkfpbdidaiaagreatdoor", sum := "2f83ff7a9df424674fe3ecabf44c3c6e607b4564ca7ddc96db4bca838be24ba6", func := "pledge/pledgelaw21.NeedCrash", spec := "needCrash", inPlace := ["math/bits.Add64"], unfollowed := true, recurses := true, named := ["pledge/step.words"], apart := false, laid := [("pledge/step.words", laid_pledge_step_words)] }
def NeedCrashSaid : Prop := needCrashRow.holds Tryz.pinned (OpenSpec.ofChange needCrashSpec)

/-- ITS FALSE NEIGHBOUR: 'it returns false'. Refute it at one input. -/
def needCrashWrong : ChangeSpec := { name := "needCrash", fn := fun _ => fun
  | [d1, d2] => { results := [.lit (.bool false)], args := [d1, d2] }
  | _ => none }
def NeedCrashWrongFalsely : Prop := needCrashRow.holds Tryz.pinned (OpenSpec.ofChange needCrashWrong)

/- THE SECOND FORM. 'bulk': how many values and letters a reading holds, each counted each time it is reached (what is shared counts as often as it is met; a slice's spare places count too). A statement '..UptoSaid' is the law's where the arguments, and the package variables that the reading takes, are together of bulk at most 1048576: NARROWER than '..Said'. Prove '..Said' where nothing that the law and all that it calls make is longer than what came in: it says more and counts as full. Else prove '..UptoSaid'. A law counts once. -/
mutual
def uptoBulk {H : Type} : DataW H → Nat
  | .lit (.string bytes) => bytes.length + 1
  | .lit _ => 1
  | .nil => 1
  | .ptr d => uptoBulk d + 1
  | .slice elems spare => uptoBulkAll elems + uptoBulkAll spare + 1
  | .agg parts => uptoBulkAll parts + 1
  | .iface _ d => uptoBulk d + 1
  | .map entries => uptoBulkEntries entries + 1
  | .held _ => 1
def uptoBulkAll {H : Type} : List (DataW H) → Nat
  | [] => 0
  | d :: r => uptoBulk d + uptoBulkAll r
def uptoBulkEntries {H : Type} : List (Lit × DataW H) → Nat
  | [] => 0
  | x :: r => uptoBulkEntry x + uptoBulkEntries r
def uptoBulkEntry {H : Type} : Lit × DataW H → Nat
  | (.string bytes, d) => bytes.length + uptoBulk d + 1
  | (_, d) => uptoBulk d + 1
 end
def uptoSmall : (H : Type) → List (DataW H) → Bool := fun _ ds => decide (uptoBulkAll ds ≤ 1048576)
def OpenSpec.upto (s : _root_.Go.ChangeSpec) : _root_.Go.OpenSpec := { _root_.Go.OpenSpec.ofChange s with cond := some uptoSmall }

/-- 'pledgelaw20.CourseStraight', WHERE WHAT IT READS IS OF BULK AT MOST 1048576: true; the input reads as it did. -/
def courseStraightUptoRow : OpenClaim := { program := "ytclbkfpbdidaiaagreatdoor", sum := "2f83ff7a9df424674fe3ecabf44c3c6e607b4564ca7ddc96db4bca838be24ba6", func := "pledge/pledgelaw20.CourseStraight", spec := "courseStraight", inPlace := ["math/bits.Add64"], unfollowed := true, recurses := true, named := ["pledge/step.words"], apart := false, laid := [("pledge/step.words", laid_pledge_step_words)], narrowed := true }
def CourseStraightUptoSaid : Prop := courseStraightUptoRow.holds Tryz.pinned (OpenSpec.upto courseStraightSpec)

/-- 'pledgelaw21.NeedSays', WHERE WHAT IT READS IS OF BULK AT MOST 1048576: true; the input reads as it did. -/
def needSaysUptoRow : OpenClaim := { program := "ytclbkfpbdidaiaagreatdoor", sum := "2f83ff7a9df424674fe3ecabf44c3c6e607b4564ca7ddc96db4bca838be24ba6", func := "pledge/pledgelaw21.NeedSays", spec := "needSays", inPlace := ["math/bits.Add64"], unfollowed := true, recurses := true, named := ["pledge/step.words"], apart := false, laid := [("pledge/step.words", laid_pledge_step_words)], narrowed := true }
def NeedSaysUptoSaid : Prop := needSaysUptoRow.holds Tryz.pinned (OpenSpec.upto needSaysSpec)

/-- 'pledgelaw21.NeedFalls', WHERE WHAT IT READS IS OF BULK AT MOST 1048576: true; the input reads as it did. -/
def needFallsUptoRow : OpenClaim := { program := "ytclbkfpbdidaiaagreatdoor", sum := "2f83ff7a9df424674fe3ecabf44c3c6e607b4564ca7ddc96db4bca838be24ba6", func := "pledge/pledgelaw21.NeedFalls", spec := "needFalls", inPlace := ["math/bits.Add64"], unfollowed := true, recurses := true, named := ["pledge/step.words"], apart := false, laid := [("pledge/step.words", laid_pledge_step_words)], narrowed := true }
def NeedFallsUptoSaid : Prop := needFallsUptoRow.holds Tryz.pinned (OpenSpec.upto needFallsSpec)

/-- 'pledgelaw21.NeedCrash', WHERE WHAT IT READS IS OF BULK AT MOST 1048576: true; the input reads as it did. -/
def needCrashUptoRow : OpenClaim := { program := "ytclbkfpbdidaiaagreatdoor", sum := "2f83ff7a9df424674fe3ecabf44c3c6e607b4564ca7ddc96db4bca838be24ba6", func := "pledge/pledgelaw21.NeedCrash", spec := "needCrash", inPlace := ["math/bits.Add64"], unfollowed := true, recurses := true, named := ["pledge/step.words"], apart := false, laid := [("pledge/step.words", laid_pledge_step_words)], narrowed := true }
def NeedCrashUptoSaid : Prop := needCrashUptoRow.holds Tryz.pinned (OpenSpec.upto needCrashSpec)

end Rows
end Go.Proofs.YtclbkfpbdidaiaaGreatDoor
