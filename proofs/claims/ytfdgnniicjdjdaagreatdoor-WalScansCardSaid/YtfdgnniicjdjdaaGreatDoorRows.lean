/-
  NARROWER THAN 'FOR EVERY INPUT', by the rows' own cells (each row's printed sentence says how): WalPlays: laid · WalOpens: laid · WalScans: laid · WalBack: laid · WalCrash: laid · WalNil: laid · RecBytes: laid.
  DERIVED. THE GIVEN ROWS OF THIS SEAT. 7 by the template 'for every input the law returns true; each argument reads behind the call as it read before'; 0 by the template 'total and deterministic' (their statements: YtfdgnniicjdjdaaGreatDoorTotals.lean).
  GIVEN WITH THE SEED: the statements are not yours to turn. If you find one false, say at which input.
  Laid BY PROGRAM, IN A SANDBOX (cutbox-rows.mjs): the forced cells as the released guide's own fill.sh prints them over the translation a93b20276def750f… (all of the seat's roots in one cut). By AI agents, Wed Nov 11 2026. No macro, syntax, notation, axiom, sorry.
-/
import Derived.Test.YtfdgnniicjdjdaaGreatDoorChecked
import GoSem.Claim
import GoSem.ClaimJoined
import GoSem.ClaimMapViews
import Derived.JoinedTies
import Derived.KernelRfl
namespace Go.Proofs.YtfdgnniicjdjdaaGreatDoor
/- THE CELL 'sum', in the pinned program and in every row, IS THE sha256 OF THE DUMP (.gsa) THAT YtfdgnniicjdjdaaGreatDoorProg.lean LOADS. Nothing in Lean hashes anything: it is a label: what it is worth is what the hold of that sum in a sandbox is worth. -/
noncomputable def Tryz.pinned : Pinned := { name := "ytfdgnniicjdjdaagreatdoor", sum := "a93b20276def750f63ed3e184d4b2fa357ad5a907dded0b607dd2d7bb30f8c87", checked := Tryz.checked }
namespace Rows
def none {H : Type} : Left H := { results := [], args := [] }

/- WHAT THE LISTED PACKAGE-LEVEL VARIABLES READ AS WHEN THE CALL BEGINS. Each datum BY PROGRAM (the guide's laid-datum.mjs) off the statement by which the dump's own 'gosem.cut.vars' lays the variable. In a bare row this is a premise. The card (YtfdgnniicjdjdaaGreatDoorCards.lean) ties it to the program's text. -/
def laid_pledge_crc_halves {H : Type} : DataW H := .agg [.lit (.int .u32 0), .lit (.int .u32 498536548), .lit (.int .u32 997073096), .lit (.int .u32 651767980), .lit (.int .u32 1994146192), .lit (.int .u32 1802195444), .lit (.int .u32 1303535960), .lit (.int .u32 1342533948), .lit (.int .u32 3988292384), .lit (.int .u32 4027552580), .lit (.int .u32 3604390888), .lit (.int .u32 3412177804), .lit (.int .u32 2607071920), .lit (.int .u32 2262029012), .lit (.int .u32 2685067896), .lit (.int .u32 3183342108)]
def laid_pledge_step_words {H : Type} : DataW H := .agg [.lit (.string []), .lit (.string [116, 97, 107, 101]), .lit (.string [102, 114, 101, 101]), .lit (.string [115, 101, 110, 100]), .lit (.string [98, 97, 99, 107]), .lit (.string [112, 117, 116]), .lit (.string [100, 114, 97, 119]), .lit (.string [111, 119, 101]), .lit (.string [112, 97, 121])]
def laid_pledge_rec_words {H : Type} : DataW H := .agg [.lit (.string []), .lit (.string [115, 116, 97, 114, 116]), .lit (.string [98, 101, 103, 105, 110]), .lit (.string [97, 100, 100]), .lit (.string [99, 111, 109, 109, 105, 116]), .lit (.string [97, 98, 111, 114, 116]), .lit (.string [117, 110, 100, 111]), .lit (.string [103, 111, 110, 101]), .lit (.string [98, 97, 99, 107]), .lit (.string [100, 111, 110, 101])]

/-- 'pledgelaw15.WalPlays': WHATEVER THE INPUT: true; the input reads as it did. -/
def walPlaysSpec : ChangeSpec := { name := "walPlays", fn := fun _ => fun
  | [d1, d2] => { results := [.lit (.bool true)], args := [d1, d2] }
  | _ => none }
def walPlaysRow : OpenClaim := { program := "ytfdgnniicjdjdaagreatdoor", sum := "a93b20276def750f63ed3e184d4b2fa357ad5a907dded0b607dd2d7bb30f8c87", func := "pledge/pledgelaw15.WalPlays", spec := "walPlays", inPlace := ["math/bits.Add64"], unfollowed := true, recurses := true, named := ["pledge/step.words", "pledge/crc.halves"], apart := false, laid := [("pledge/crc.halves", laid_pledge_crc_halves), ("pledge/step.words", laid_pledge_step_words)] }
def WalPlaysSaid : Prop := walPlaysRow.holds Tryz.pinned (OpenSpec.ofChange walPlaysSpec)

/-- ITS FALSE NEIGHBOUR: 'it returns false'. Refute it at one input. -/
def walPlaysWrong : ChangeSpec := { name := "walPlays", fn := fun _ => fun
  | [d1, d2] => { results := [.lit (.bool false)], args := [d1, d2] }
  | _ => none }
def WalPlaysWrongFalsely : Prop := walPlaysRow.holds Tryz.pinned (OpenSpec.ofChange walPlaysWrong)

/-- 'pledgelaw15.WalOpens': WHATEVER THE INPUT: true; the input reads as it did. -/
def walOpensSpec : ChangeSpec := { name := "walOpens", fn := fun _ => fun
  | [d1, d2, d3] => { results := [.lit (.bool true)], args := [d1, d2, d3] }
  | _ => none }
def walOpensRow : OpenClaim := { program := "ytfdgnniicjdjdaagreatdoor", sum := "a93b20276def750f63ed3e184d4b2fa357ad5a907dded0b607dd2d7bb30f8c87", func := "pledge/pledgelaw15.WalOpens", spec := "walOpens", inPlace := ["math/bits.Add64"], unfollowed := true, recurses := true, named := ["pledge/step.words", "pledge/crc.halves"], apart := false, laid := [("pledge/crc.halves", laid_pledge_crc_halves), ("pledge/step.words", laid_pledge_step_words)] }
def WalOpensSaid : Prop := walOpensRow.holds Tryz.pinned (OpenSpec.ofChange walOpensSpec)

/-- ITS FALSE NEIGHBOUR: 'it returns false'. Refute it at one input. -/
def walOpensWrong : ChangeSpec := { name := "walOpens", fn := fun _ => fun
  | [d1, d2, d3] => { results := [.lit (.bool false)], args := [d1, d2, d3] }
  | _ => none }
def WalOpensWrongFalsely : Prop := walOpensRow.holds Tryz.pinned (OpenSpec.ofChange walOpensWrong)

/-- 'pledgelaw15.WalScans': WHATEVER THE INPUT: true; the input reads as it did. -/
def walScansSpec : ChangeSpec := { name := "walScans", fn := fun _ => fun
  | [d1, d2] => { results := [.lit (.bool true)], args := [d1, d2] }
  | _ => none }
def walScansRow : OpenClaim := { program := "ytfdgnniicjdjdaagreatdoor", sum := "a93b20276def750f63ed3e184d4b2fa357ad5a907dded0b607dd2d7bb30f8c87", func := "pledge/pledgelaw15.WalScans", spec := "walScans", inPlace := ["math/bits.Add64"], unfollowed := true, recurses := true, named := ["pledge/crc.halves", "pledge/step.words"], apart := false, laid := [("pledge/crc.halves", laid_pledge_crc_halves), ("pledge/step.words", laid_pledge_step_words)] }
def WalScansSaid : Prop := walScansRow.holds Tryz.pinned (OpenSpec.ofChange walScansSpec)

/-- ITS FALSE NEIGHBOUR: 'it returns false'. Refute it at one input. -/
def walScansWrong : ChangeSpec := { name := "walScans", fn := fun _ => fun
  | [d1, d2] => { results := [.lit (.bool false)], args := [d1, d2] }
  | _ => none }
def WalScansWrongFalsely : Prop := walScansRow.holds Tryz.pinned (OpenSpec.ofChange walScansWrong)

/-- 'pledgelaw15.WalBack': WHATEVER THE INPUT: true; the input reads as it did. -/
def walBackSpec : ChangeSpec := { name := "walBack", fn := fun _ => fun
  | [d] => { results := [.lit (.bool true)], args := [d] }
  | _ => none }
def walBackRow : OpenClaim := { program := "ytfdgnniicjdjdaagreatdoor", sum := "a93b20276def750f63ed3e184d4b2fa357ad5a907dded0b607dd2d7bb30f8c87", func := "pledge/pledgelaw15.WalBack", spec := "walBack", inPlace := ["math/bits.Add64"], unfollowed := true, recurses := true, named := ["pledge/step.words", "pledge/crc.halves"], apart := false, laid := [("pledge/crc.halves", laid_pledge_crc_halves), ("pledge/step.words", laid_pledge_step_words)] }
def WalBackSaid : Prop := walBackRow.holds Tryz.pinned (OpenSpec.ofChange walBackSpec)

/-- ITS FALSE NEIGHBOUR: 'it returns false'. Refute it at one input. -/
def walBackWrong : ChangeSpec := { name := "walBack", fn := fun _ => fun
  | [d] => { results := [.lit (.bool false)], args := [d] }
  | _ => none }
def WalBackWrongFalsely : Prop := walBackRow.holds Tryz.pinned (OpenSpec.ofChange walBackWrong)

/-- 'pledgelaw15.WalCrash': WHATEVER THE INPUT: true; the input reads as it did. -/
def walCrashSpec : ChangeSpec := { name := "walCrash", fn := fun _ => fun
  | [d1, d2, d3] => { results := [.lit (.bool true)], args := [d1, d2, d3] }
  | _ => none }
def walCrashRow : OpenClaim := { program := "ytfdgnniicjdjdaagreatdoor", sum := "a93b20276def750f63ed3e184d4b2fa357ad5a907dded0b607dd2d7bb30f8c87", func := "pledge/pledgelaw15.WalCrash", spec := "walCrash", inPlace := ["math/bits.Add64"], unfollowed := true, recurses := true, named := ["pledge/step.words", "pledge/crc.halves"], apart := false, laid := [("pledge/crc.halves", laid_pledge_crc_halves), ("pledge/step.words", laid_pledge_step_words)] }
def WalCrashSaid : Prop := walCrashRow.holds Tryz.pinned (OpenSpec.ofChange walCrashSpec)

/-- ITS FALSE NEIGHBOUR: 'it returns false'. Refute it at one input. -/
def walCrashWrong : ChangeSpec := { name := "walCrash", fn := fun _ => fun
  | [d1, d2, d3] => { results := [.lit (.bool false)], args := [d1, d2, d3] }
  | _ => none }
def WalCrashWrongFalsely : Prop := walCrashRow.holds Tryz.pinned (OpenSpec.ofChange walCrashWrong)

/-- 'pledgelaw15.WalNil': WHATEVER THE INPUT: true; the input reads as it did. -/
def walNilSpec : ChangeSpec := { name := "walNil", fn := fun _ => fun
  | [d1, d2] => { results := [.lit (.bool true)], args := [d1, d2] }
  | _ => none }
def walNilRow : OpenClaim := { program := "ytfdgnniicjdjdaagreatdoor", sum := "a93b20276def750f63ed3e184d4b2fa357ad5a907dded0b607dd2d7bb30f8c87", func := "pledge/pledgelaw15.WalNil", spec := "walNil", inPlace := ["math/bits.Add64"], unfollowed := true, recurses := true, named := ["pledge/step.words", "pledge/crc.halves"], apart := false, laid := [("pledge/crc.halves", laid_pledge_crc_halves), ("pledge/step.words", laid_pledge_step_words)] }
def WalNilSaid : Prop := walNilRow.holds Tryz.pinned (OpenSpec.ofChange walNilSpec)

/-- ITS FALSE NEIGHBOUR: 'it returns false'. Refute it at one input. -/
def walNilWrong : ChangeSpec := { name := "walNil", fn := fun _ => fun
  | [d1, d2] => { results := [.lit (.bool false)], args := [d1, d2] }
  | _ => none }
def WalNilWrongFalsely : Prop := walNilRow.holds Tryz.pinned (OpenSpec.ofChange walNilWrong)

/-- 'pledgelaw14.RecBytes': WHATEVER THE INPUT: true; the input reads as it did. -/
def recBytesSpec : ChangeSpec := { name := "recBytes", fn := fun _ => fun
  | [d1, d2] => { results := [.lit (.bool true)], args := [d1, d2] }
  | _ => none }
def recBytesRow : OpenClaim := { program := "ytfdgnniicjdjdaagreatdoor", sum := "a93b20276def750f63ed3e184d4b2fa357ad5a907dded0b607dd2d7bb30f8c87", func := "pledge/pledgelaw14.RecBytes", spec := "recBytes", inPlace := ["math/bits.Add64"], unfollowed := true, recurses := true, named := ["pledge/step.words", "pledge/rec.words"], apart := false, laid := [("pledge/step.words", laid_pledge_step_words), ("pledge/rec.words", laid_pledge_rec_words)] }
def RecBytesSaid : Prop := recBytesRow.holds Tryz.pinned (OpenSpec.ofChange recBytesSpec)

/-- ITS FALSE NEIGHBOUR: 'it returns false'. Refute it at one input. -/
def recBytesWrong : ChangeSpec := { name := "recBytes", fn := fun _ => fun
  | [d1, d2] => { results := [.lit (.bool false)], args := [d1, d2] }
  | _ => none }
def RecBytesWrongFalsely : Prop := recBytesRow.holds Tryz.pinned (OpenSpec.ofChange recBytesWrong)

/- THE SECOND FORM. 'bulk': how many values and letters a reading holds, each counted each time it is reached (what is shared counts as often as it is met; a slice's spare places count too). A statement '..UptoSaid' is the law's where the arguments, and the package variables that the reading takes, are together of bulk at most 1048576: NARROWER than '..Said'. Prove '..Said' where nothing that the law and all that it calls make is longer than what came in: it says more and counts as full. Else prove '..UptoSaid'. A law counts once. -/
mutual
def uptoBulk {H : Type} : DataW H → Nat
  | .lit (.string bytes) => bytes.length + 1
  | .lit _ => 1
  | .nil => 1
  | .ptr d => uptoBulk d + 1
  | .slice elems spare => uptoBulkAll elems + uptoBulkAll spare + 1
  | .agg parts => uptoBulkAll parts + 1
  | .iface _ d => uptoBulk d + 1
  | .map entries => uptoBulkEntries entries + 1
  | .held _ => 1
def uptoBulkAll {H : Type} : List (DataW H) → Nat
  | [] => 0
  | d :: r => uptoBulk d + uptoBulkAll r
def uptoBulkEntries {H : Type} : List (Lit × DataW H) → Nat
  | [] => 0
  | x :: r => uptoBulkEntry x + uptoBulkEntries r
def uptoBulkEntry {H : Type} : Lit × DataW H → Nat
  | (.string bytes, d) => bytes.length + uptoBulk d + 1
  | (_, d) => uptoBulk d + 1
 end
def uptoSmall : (H : Type) → List (DataW H) → Bool := fun _ ds => decide (uptoBulkAll ds ≤ 1048576)
def OpenSpec.upto (s : _root_.Go.ChangeSpec) : _root_.Go.OpenSpec := { _root_.Go.OpenSpec.ofChange s with cond := some uptoSmall }

/-- 'pledgelaw15.WalPlays', WHERE WHAT IT READS IS OF BULK AT MOST 1048576: true; the input reads as it did. -/
def walPlaysUptoRow : OpenClaim := { program := "ytfdgnniicjdjdaagreatdoor", sum := "a93b20276def750f63ed3e184d4b2fa357ad5a907dded0b607dd2d7bb30f8c87", func := "pledge/pledgelaw15.WalPlays", spec := "walPlays", inPlace := ["math/bits.Add64"], unfollowed := true, recurses := true, named := ["pledge/step.words", "pledge/crc.halves"], apart := false, laid := [("pledge/crc.halves", laid_pledge_crc_halves), ("pledge/step.words", laid_pledge_step_words)], narrowed := true }
def WalPlaysUptoSaid : Prop := walPlaysUptoRow.holds Tryz.pinned (OpenSpec.upto walPlaysSpec)

/-- 'pledgelaw15.WalOpens', WHERE WHAT IT READS IS OF BULK AT MOST 1048576: true; the input reads as it did. -/
def walOpensUptoRow : OpenClaim := { program := "ytfdgnniicjdjdaagreatdoor", sum := "a93b20276def750f63ed3e184d4b2fa357ad5a907dded0b607dd2d7bb30f8c87", func := "pledge/pledgelaw15.WalOpens", spec := "walOpens", inPlace := ["math/bits.Add64"], unfollowed := true, recurses := true, named := ["pledge/step.words", "pledge/crc.halves"], apart := false, laid := [("pledge/crc.halves", laid_pledge_crc_halves), ("pledge/step.words", laid_pledge_step_words)], narrowed := true }
def WalOpensUptoSaid : Prop := walOpensUptoRow.holds Tryz.pinned (OpenSpec.upto walOpensSpec)

/-- 'pledgelaw15.WalScans', WHERE WHAT IT READS IS OF BULK AT MOST 1048576: true; the input reads as it did. -/
def walScansUptoRow : OpenClaim := { program := "ytfdgnniicjdjdaagreatdoor", sum := "a93b20276def750f63ed3e184d4b2fa357ad5a907dded0b607dd2d7bb30f8c87", func := "pledge/pledgelaw15.WalScans", spec := "walScans", inPlace := ["math/bits.Add64"], unfollowed := true, recurses := true, named := ["pledge/crc.halves", "pledge/step.words"], apart := false, laid := [("pledge/crc.halves", laid_pledge_crc_halves), ("pledge/step.words", laid_pledge_step_words)], narrowed := true }
def WalScansUptoSaid : Prop := walScansUptoRow.holds Tryz.pinned (OpenSpec.upto walScansSpec)

/-- 'pledgelaw15.WalBack', WHERE WHAT IT READS IS OF BULK AT MOST 1048576: true; the input reads as it did. -/
def walBackUptoRow : OpenClaim := { program := "ytfdgnniicjdjdaagreatdoor", sum := "a93b20276def750f63ed3e184d4b2fa357ad5a907dded0b607dd2d7bb30f8c87", func := "pledge/pledgelaw15.WalBack", spec := "walBack", inPlace := ["math/bits.Add64"], unfollowed := true, recurses := true, named := ["pledge/step.words", "pledge/crc.halves"], apart := false, laid := [("pledge/crc.halves", laid_pledge_crc_halves), ("pledge/step.words", laid_pledge_step_words)], narrowed := true }
def WalBackUptoSaid : Prop := walBackUptoRow.holds Tryz.pinned (OpenSpec.upto walBackSpec)

/-- 'pledgelaw15.WalCrash', WHERE WHAT IT READS IS OF BULK AT MOST 1048576: true; the input reads as it did. -/
def walCrashUptoRow : OpenClaim := { program := "ytfdgnniicjdjdaagreatdoor", sum := "a93b20276def750f63ed3e184d4b2fa357ad5a907dded0b607dd2d7bb30f8c87", func := "pledge/pledgelaw15.WalCrash", spec := "walCrash", inPlace := ["math/bits.Add64"], unfollowed := true, recurses := true, named := ["pledge/step.words", "pledge/crc.halves"], apart := false, laid := [("pledge/crc.halves", laid_pledge_crc_halves), ("pledge/step.words", laid_pledge_step_words)], narrowed := true }
def WalCrashUptoSaid : Prop := walCrashUptoRow.holds Tryz.pinned (OpenSpec.upto walCrashSpec)

/-- 'pledgelaw15.WalNil', WHERE WHAT IT READS IS OF BULK AT MOST 1048576: true; the input reads as it did. -/
def walNilUptoRow : OpenClaim := { program := "ytfdgnniicjdjdaagreatdoor", sum := "a93b20276def750f63ed3e184d4b2fa357ad5a907dded0b607dd2d7bb30f8c87", func := "pledge/pledgelaw15.WalNil", spec := "walNil", inPlace := ["math/bits.Add64"], unfollowed := true, recurses := true, named := ["pledge/step.words", "pledge/crc.halves"], apart := false, laid := [("pledge/crc.halves", laid_pledge_crc_halves), ("pledge/step.words", laid_pledge_step_words)], narrowed := true }
def WalNilUptoSaid : Prop := walNilUptoRow.holds Tryz.pinned (OpenSpec.upto walNilSpec)

/-- 'pledgelaw14.RecBytes', WHERE WHAT IT READS IS OF BULK AT MOST 1048576: true; the input reads as it did. -/
def recBytesUptoRow : OpenClaim := { program := "ytfdgnniicjdjdaagreatdoor", sum := "a93b20276def750f63ed3e184d4b2fa357ad5a907dded0b607dd2d7bb30f8c87", func := "pledge/pledgelaw14.RecBytes", spec := "recBytes", inPlace := ["math/bits.Add64"], unfollowed := true, recurses := true, named := ["pledge/step.words", "pledge/rec.words"], apart := false, laid := [("pledge/step.words", laid_pledge_step_words), ("pledge/rec.words", laid_pledge_rec_words)], narrowed := true }
def RecBytesUptoSaid : Prop := recBytesUptoRow.holds Tryz.pinned (OpenSpec.upto recBytesSpec)

end Rows
end Go.Proofs.YtfdgnniicjdjdaaGreatDoor
