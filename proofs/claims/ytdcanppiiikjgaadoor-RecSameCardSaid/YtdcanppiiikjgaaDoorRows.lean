/-
  NARROWER THAN 'FOR EVERY INPUT', by the rows' own cells (each row's printed sentence says how): RecBack: laid · RecSame: laid · ProgBytes: laid.
  DERIVED. THE GIVEN ROWS OF THIS SEAT. 3 by the template 'for every input the law returns true; each argument reads behind the call as it read before'; 0 by the template 'total and deterministic' (their statements: YtdcanppiiikjgaaDoorTotals.lean).
  GIVEN WITH THE SEED: the statements are not yours to turn. If you find one false, say at which input.
  Laid BY PROGRAM, IN A SANDBOX (cutbox-rows.mjs): the forced cells as the released guide's own fill.sh prints them over the translation 899c3fb189a8444c… (all of the seat's roots in one cut). By AI agents, Wed Nov 11 2026. No macro, syntax, notation, axiom, sorry.
-/
import Derived.Test.YtdcanppiiikjgaaDoorChecked
import GoSem.Claim
import GoSem.ClaimJoined
import GoSem.ClaimMapViews
import Derived.JoinedTies
import Derived.KernelRfl
namespace Go.Proofs.YtdcanppiiikjgaaDoor
/- THE CELL 'sum', in the pinned program and in every row, IS THE sha256 OF THE DUMP (.gsa) THAT YtdcanppiiikjgaaDoorProg.lean LOADS. Nothing in Lean hashes anything: it is a label: what it is worth is what the hold of that sum in a sandbox is worth. -/
noncomputable def Tryd.pinned : Pinned := { name := "ytdcanppiiikjgaadoor", sum := "899c3fb189a8444cb1062de88c243a61ab24731a0d831fcf57ad3846bb2d662c", checked := Tryd.checked }
namespace Rows
def none {H : Type} : Left H := { results := [], args := [] }

/- WHAT THE LISTED PACKAGE-LEVEL VARIABLES READ AS WHEN THE CALL BEGINS. Each datum BY PROGRAM (the guide's laid-datum.mjs) off the statement by which the dump's own 'gosem.cut.vars' lays the variable. In a bare row this is a premise. The card (YtdcanppiiikjgaaDoorCards.lean) ties it to the program's text. -/
def laid_pledge_crc_halves {H : Type} : DataW H := .agg [.lit (.int .u32 0), .lit (.int .u32 498536548), .lit (.int .u32 997073096), .lit (.int .u32 651767980), .lit (.int .u32 1994146192), .lit (.int .u32 1802195444), .lit (.int .u32 1303535960), .lit (.int .u32 1342533948), .lit (.int .u32 3988292384), .lit (.int .u32 4027552580), .lit (.int .u32 3604390888), .lit (.int .u32 3412177804), .lit (.int .u32 2607071920), .lit (.int .u32 2262029012), .lit (.int .u32 2685067896), .lit (.int .u32 3183342108)]
def laid_pledge_step_words {H : Type} : DataW H := .agg [.lit (.string []), .lit (.string [116, 97, 107, 101]), .lit (.string [102, 114, 101, 101]), .lit (.string [115, 101, 110, 100]), .lit (.string [98, 97, 99, 107]), .lit (.string [112, 117, 116]), .lit (.string [100, 114, 97, 119]), .lit (.string [111, 119, 101]), .lit (.string [112, 97, 121])]
def laid_pledge_rec_words {H : Type} : DataW H := .agg [.lit (.string []), .lit (.string [115, 116, 97, 114, 116]), .lit (.string [98, 101, 103, 105, 110]), .lit (.string [97, 100, 100]), .lit (.string [99, 111, 109, 109, 105, 116]), .lit (.string [97, 98, 111, 114, 116]), .lit (.string [117, 110, 100, 111]), .lit (.string [103, 111, 110, 101]), .lit (.string [98, 97, 99, 107]), .lit (.string [100, 111, 110, 101])]

/-- 'pledgelaw14.RecBack': WHATEVER THE INPUT: true; the input reads as it did. -/
def recBackSpec : ChangeSpec := { name := "recBack", fn := fun _ => fun
  | [d1, d2] => { results := [.lit (.bool true)], args := [d1, d2] }
  | _ => none }
def recBackRow : OpenClaim := { program := "ytdcanppiiikjgaadoor", sum := "899c3fb189a8444cb1062de88c243a61ab24731a0d831fcf57ad3846bb2d662c", func := "pledge/pledgelaw14.RecBack", spec := "recBack", inPlace := ["math/bits.Add64"], unfollowed := true, recurses := true, named := ["pledge/step.words", "pledge/rec.words", "pledge/crc.halves"], apart := false, laid := [("pledge/crc.halves", laid_pledge_crc_halves), ("pledge/step.words", laid_pledge_step_words), ("pledge/rec.words", laid_pledge_rec_words)] }
def RecBackSaid : Prop := recBackRow.holds Tryd.pinned (OpenSpec.ofChange recBackSpec)

/-- ITS FALSE NEIGHBOUR: 'it returns false'. Refute it at one input. -/
def recBackWrong : ChangeSpec := { name := "recBack", fn := fun _ => fun
  | [d1, d2] => { results := [.lit (.bool false)], args := [d1, d2] }
  | _ => none }
def RecBackWrongFalsely : Prop := recBackRow.holds Tryd.pinned (OpenSpec.ofChange recBackWrong)

/-- 'pledgelaw14.RecSame': WHATEVER THE INPUT: true; the input reads as it did. -/
def recSameSpec : ChangeSpec := { name := "recSame", fn := fun _ => fun
  | [d1, d2] => { results := [.lit (.bool true)], args := [d1, d2] }
  | _ => none }
def recSameRow : OpenClaim := { program := "ytdcanppiiikjgaadoor", sum := "899c3fb189a8444cb1062de88c243a61ab24731a0d831fcf57ad3846bb2d662c", func := "pledge/pledgelaw14.RecSame", spec := "recSame", inPlace := ["math/bits.Add64"], unfollowed := true, recurses := true, named := ["pledge/step.words", "pledge/rec.words"], apart := false, laid := [("pledge/step.words", laid_pledge_step_words), ("pledge/rec.words", laid_pledge_rec_words)] }
def RecSameSaid : Prop := recSameRow.holds Tryd.pinned (OpenSpec.ofChange recSameSpec)

/-- ITS FALSE NEIGHBOUR: 'it returns false'. Refute it at one input. -/
def recSameWrong : ChangeSpec := { name := "recSame", fn := fun _ => fun
  | [d1, d2] => { results := [.lit (.bool false)], args := [d1, d2] }
  | _ => none }
def RecSameWrongFalsely : Prop := recSameRow.holds Tryd.pinned (OpenSpec.ofChange recSameWrong)

/-- 'pledgelaw13.ProgBytes': WHATEVER THE INPUT: true; the input reads as it did. -/
def progBytesSpec : ChangeSpec := { name := "progBytes", fn := fun _ => fun
  | [d1, d2] => { results := [.lit (.bool true)], args := [d1, d2] }
  | _ => none }
def progBytesRow : OpenClaim := { program := "ytdcanppiiikjgaadoor", sum := "899c3fb189a8444cb1062de88c243a61ab24731a0d831fcf57ad3846bb2d662c", func := "pledge/pledgelaw13.ProgBytes", spec := "progBytes", inPlace := ["math/bits.Add64"], unfollowed := true, recurses := true, named := ["pledge/step.words"], apart := false, laid := [("pledge/step.words", laid_pledge_step_words)] }
def ProgBytesSaid : Prop := progBytesRow.holds Tryd.pinned (OpenSpec.ofChange progBytesSpec)

/-- ITS FALSE NEIGHBOUR: 'it returns false'. Refute it at one input. -/
def progBytesWrong : ChangeSpec := { name := "progBytes", fn := fun _ => fun
  | [d1, d2] => { results := [.lit (.bool false)], args := [d1, d2] }
  | _ => none }
def ProgBytesWrongFalsely : Prop := progBytesRow.holds Tryd.pinned (OpenSpec.ofChange progBytesWrong)

/- THE SECOND FORM. 'bulk': how many values and letters a reading holds, each counted each time it is reached (what is shared counts as often as it is met; a slice's spare places count too). A statement '..UptoSaid' is the law's where the arguments, and the package variables that the reading takes, are together of bulk at most 1048576: NARROWER than '..Said'. Prove '..Said' where nothing that the law and all that it calls make is longer than what came in: it says more and counts as full. Else prove '..UptoSaid'. A law counts once. -/
mutual
def uptoBulk {H : Type} : DataW H → Nat
  | .lit (.string bytes) => bytes.length + 1
  | .lit _ => 1
  | .nil => 1
  | .ptr d => uptoBulk d + 1
  | .slice elems spare => uptoBulkAll elems + uptoBulkAll spare + 1
  | .agg parts => uptoBulkAll parts + 1
  | .iface _ d => uptoBulk d + 1
  | .map entries => uptoBulkEntries entries + 1
  | .held _ => 1
def uptoBulkAll {H : Type} : List (DataW H) → Nat
  | [] => 0
  | d :: r => uptoBulk d + uptoBulkAll r
def uptoBulkEntries {H : Type} : List (Lit × DataW H) → Nat
  | [] => 0
  | x :: r => uptoBulkEntry x + uptoBulkEntries r
def uptoBulkEntry {H : Type} : Lit × DataW H → Nat
  | (.string bytes, d) => bytes.length + uptoBulk d + 1
  | (_, d) => uptoBulk d + 1
 end
def uptoSmall : (H : Type) → List (DataW H) → Bool := fun _ ds => decide (uptoBulkAll ds ≤ 1048576)
def OpenSpec.upto (s : _root_.Go.ChangeSpec) : _root_.Go.OpenSpec := { _root_.Go.OpenSpec.ofChange s with cond := some uptoSmall }

/-- 'pledgelaw14.RecBack', WHERE WHAT IT READS IS OF BULK AT MOST 1048576: true; the input reads as it did. -/
def recBackUptoRow : OpenClaim := { program := "ytdcanppiiikjgaadoor", sum := "899c3fb189a8444cb1062de88c243a61ab24731a0d831fcf57ad3846bb2d662c", func := "pledge/pledgelaw14.RecBack", spec := "recBack", inPlace := ["math/bits.Add64"], unfollowed := true, recurses := true, named := ["pledge/step.words", "pledge/rec.words", "pledge/crc.halves"], apart := false, laid := [("pledge/crc.halves", laid_pledge_crc_halves), ("pledge/step.words", laid_pledge_step_words), ("pledge/rec.words", laid_pledge_rec_words)], narrowed := true }
def RecBackUptoSaid : Prop := recBackUptoRow.holds Tryd.pinned (OpenSpec.upto recBackSpec)

/-- 'pledgelaw14.RecSame', WHERE WHAT IT READS IS OF BULK AT MOST 1048576: true; the input reads as it did. -/
def recSameUptoRow : OpenClaim := { program := "ytdcanppiiikjgaadoor", sum := "899c3fb189a8444cb1062de88c243a61ab24731a0d831fcf57ad3846bb2d662c", func := "pledge/pledgelaw14.RecSame", spec := "recSame", inPlace := ["math/bits.Add64"], unfollowed := true, recurses := true, named := ["pledge/step.words", "pledge/rec.words"], apart := false, laid := [("pledge/step.words", laid_pledge_step_words), ("pledge/rec.words", laid_pledge_rec_words)], narrowed := true }
def RecSameUptoSaid : Prop := recSameUptoRow.holds Tryd.pinned (OpenSpec.upto recSameSpec)

/-- 'pledgelaw13.ProgBytes', WHERE WHAT IT READS IS OF BULK AT MOST 1048576: true; the input reads as it did. -/
def progBytesUptoRow : OpenClaim := { program := "ytdcanppiiikjgaadoor", sum := "899c3fb189a8444cb1062de88c243a61ab24731a0d831fcf57ad3846bb2d662c", func := "pledge/pledgelaw13.ProgBytes", spec := "progBytes", inPlace := ["math/bits.Add64"], unfollowed := true, recurses := true, named := ["pledge/step.words"], apart := false, laid := [("pledge/step.words", laid_pledge_step_words)], narrowed := true }
def ProgBytesUptoSaid : Prop := progBytesUptoRow.holds Tryd.pinned (OpenSpec.upto progBytesSpec)

end Rows
end Go.Proofs.YtdcanppiiikjgaaDoor
