/-
  No cell of these rows narrows 'for every input' (looked for: loops, veiled, ifaces, maps, wideKeys, modest, calm, conditions, laid).
  DERIVED. THE GIVEN ROWS OF THIS SEAT. 4 by the template 'for every input the law returns true; each argument reads behind the call as it read before'; 0 by the template 'total and deterministic' (their statements: YthkeefdapnkgeaaTotals.lean).
  GIVEN WITH THE SEED: the statements are not yours to turn. If you find one false, say at which input.
  Laid BY PROGRAM, IN A SANDBOX (cutbox-rows.mjs): the forced cells as the released guide's own fill.sh prints them over the translation c6a3d363561ca8d4… (all of the seat's roots in one cut). By AI agents, Wed Nov 11 2026. No macro, syntax, notation, axiom, sorry.
-/
import Derived.Test.YthkeefdapnkgeaaChecked
import GoSem.Claim
import GoSem.ClaimJoined
import GoSem.ClaimMapViews
import Derived.JoinedTies
import Derived.KernelRfl
namespace Go.Proofs.Ythkeefdapnkgeaa
/- THE CELL 'sum', in the pinned program and in every row, IS THE sha256 OF THE DUMP (.gsa) THAT YthkeefdapnkgeaaProg.lean LOADS. Nothing in Lean hashes anything: it is a label: what it is worth is what the hold of that sum in a sandbox is worth. -/
noncomputable def Try.pinned : Pinned := { name := "ythkeefdapnkgeaa", sum := "c6a3d363561ca8d4e396f41fdda8b2c0ea53396293289801f13b577ee00821bc", checked := Try.checked }
namespace Rows
def none {H : Type} : Left H := { results := [], args := [] }

/-- 'pledgelaw06.ConfMost': WHATEVER THE INPUT: true; the input reads as it did. -/
def confMostSpec : ChangeSpec := { name := "confMost", fn := fun _ => fun
  | [d1, d2] => { results := [.lit (.bool true)], args := [d1, d2] }
  | _ => none }
def confMostRow : OpenClaim := { program := "ythkeefdapnkgeaa", sum := "c6a3d363561ca8d4e396f41fdda8b2c0ea53396293289801f13b577ee00821bc", func := "pledge/pledgelaw06.ConfMost", spec := "confMost", unfollowed := true, recurses := true, apart := false }
def ConfMostSaid : Prop := confMostRow.holds Try.pinned (OpenSpec.ofChange confMostSpec)

/-- ITS FALSE NEIGHBOUR: 'it returns false'. Refute it at one input. -/
def confMostWrong : ChangeSpec := { name := "confMost", fn := fun _ => fun
  | [d1, d2] => { results := [.lit (.bool false)], args := [d1, d2] }
  | _ => none }
def ConfMostWrongFalsely : Prop := confMostRow.holds Try.pinned (OpenSpec.ofChange confMostWrong)

/-- 'pledgelaw06.ConfPlain': WHATEVER THE INPUT: true; the input reads as it did. -/
def confPlainSpec : ChangeSpec := { name := "confPlain", fn := fun _ => fun
  | [d1, d2, d3] => { results := [.lit (.bool true)], args := [d1, d2, d3] }
  | _ => none }
def confPlainRow : OpenClaim := { program := "ythkeefdapnkgeaa", sum := "c6a3d363561ca8d4e396f41fdda8b2c0ea53396293289801f13b577ee00821bc", func := "pledge/pledgelaw06.ConfPlain", spec := "confPlain", unfollowed := true, recurses := true, apart := false }
def ConfPlainSaid : Prop := confPlainRow.holds Try.pinned (OpenSpec.ofChange confPlainSpec)

/-- ITS FALSE NEIGHBOUR: 'it returns false'. Refute it at one input. -/
def confPlainWrong : ChangeSpec := { name := "confPlain", fn := fun _ => fun
  | [d1, d2, d3] => { results := [.lit (.bool false)], args := [d1, d2, d3] }
  | _ => none }
def ConfPlainWrongFalsely : Prop := confPlainRow.holds Try.pinned (OpenSpec.ofChange confPlainWrong)

/-- 'pledgelaw06.ConfDecl': WHATEVER THE INPUT: true; the input reads as it did. -/
def confDeclSpec : ChangeSpec := { name := "confDecl", fn := fun _ => fun
  | [d1, d2] => { results := [.lit (.bool true)], args := [d1, d2] }
  | _ => none }
def confDeclRow : OpenClaim := { program := "ythkeefdapnkgeaa", sum := "c6a3d363561ca8d4e396f41fdda8b2c0ea53396293289801f13b577ee00821bc", func := "pledge/pledgelaw06.ConfDecl", spec := "confDecl", unfollowed := true, recurses := true, apart := false }
def ConfDeclSaid : Prop := confDeclRow.holds Try.pinned (OpenSpec.ofChange confDeclSpec)

/-- ITS FALSE NEIGHBOUR: 'it returns false'. Refute it at one input. -/
def confDeclWrong : ChangeSpec := { name := "confDecl", fn := fun _ => fun
  | [d1, d2] => { results := [.lit (.bool false)], args := [d1, d2] }
  | _ => none }
def ConfDeclWrongFalsely : Prop := confDeclRow.holds Try.pinned (OpenSpec.ofChange confDeclWrong)

/-- 'pledgelaw06.ConfSmall': WHATEVER THE INPUT: true; the input reads as it did. -/
def confSmallSpec : ChangeSpec := { name := "confSmall", fn := fun _ => fun
  | [d] => { results := [.lit (.bool true)], args := [d] }
  | _ => none }
def confSmallRow : OpenClaim := { program := "ythkeefdapnkgeaa", sum := "c6a3d363561ca8d4e396f41fdda8b2c0ea53396293289801f13b577ee00821bc", func := "pledge/pledgelaw06.ConfSmall", spec := "confSmall", unfollowed := true, recurses := true, apart := false }
def ConfSmallSaid : Prop := confSmallRow.holds Try.pinned (OpenSpec.ofChange confSmallSpec)

/-- ITS FALSE NEIGHBOUR: 'it returns false'. Refute it at one input. -/
def confSmallWrong : ChangeSpec := { name := "confSmall", fn := fun _ => fun
  | [d] => { results := [.lit (.bool false)], args := [d] }
  | _ => none }
def ConfSmallWrongFalsely : Prop := confSmallRow.holds Try.pinned (OpenSpec.ofChange confSmallWrong)

/- THE SECOND FORM. 'bulk': how many values and letters a reading holds, each counted each time it is reached (what is shared counts as often as it is met; a slice's spare places count too). A statement '..UptoSaid' is the law's where the arguments, and the package variables that the reading takes, are together of bulk at most 1048576: NARROWER than '..Said'. Prove '..Said' where nothing that the law and all that it calls make is longer than what came in: it says more and counts as full. Else prove '..UptoSaid'. A law counts once. -/
mutual
def uptoBulk {H : Type} : DataW H → Nat
  | .lit (.string bytes) => bytes.length + 1
  | .lit _ => 1
  | .nil => 1
  | .ptr d => uptoBulk d + 1
  | .slice elems spare => uptoBulkAll elems + uptoBulkAll spare + 1
  | .agg parts => uptoBulkAll parts + 1
  | .iface _ d => uptoBulk d + 1
  | .map entries => uptoBulkEntries entries + 1
  | .held _ => 1
def uptoBulkAll {H : Type} : List (DataW H) → Nat
  | [] => 0
  | d :: r => uptoBulk d + uptoBulkAll r
def uptoBulkEntries {H : Type} : List (Lit × DataW H) → Nat
  | [] => 0
  | x :: r => uptoBulkEntry x + uptoBulkEntries r
def uptoBulkEntry {H : Type} : Lit × DataW H → Nat
  | (.string bytes, d) => bytes.length + uptoBulk d + 1
  | (_, d) => uptoBulk d + 1
 end
def uptoSmall : (H : Type) → List (DataW H) → Bool := fun _ ds => decide (uptoBulkAll ds ≤ 1048576)
def OpenSpec.upto (s : _root_.Go.ChangeSpec) : _root_.Go.OpenSpec := { _root_.Go.OpenSpec.ofChange s with cond := some uptoSmall }

/-- 'pledgelaw06.ConfMost', WHERE WHAT IT READS IS OF BULK AT MOST 1048576: true; the input reads as it did. -/
def confMostUptoRow : OpenClaim := { program := "ythkeefdapnkgeaa", sum := "c6a3d363561ca8d4e396f41fdda8b2c0ea53396293289801f13b577ee00821bc", func := "pledge/pledgelaw06.ConfMost", spec := "confMost", unfollowed := true, recurses := true, apart := false, narrowed := true }
def ConfMostUptoSaid : Prop := confMostUptoRow.holds Try.pinned (OpenSpec.upto confMostSpec)

/-- 'pledgelaw06.ConfPlain', WHERE WHAT IT READS IS OF BULK AT MOST 1048576: true; the input reads as it did. -/
def confPlainUptoRow : OpenClaim := { program := "ythkeefdapnkgeaa", sum := "c6a3d363561ca8d4e396f41fdda8b2c0ea53396293289801f13b577ee00821bc", func := "pledge/pledgelaw06.ConfPlain", spec := "confPlain", unfollowed := true, recurses := true, apart := false, narrowed := true }
def ConfPlainUptoSaid : Prop := confPlainUptoRow.holds Try.pinned (OpenSpec.upto confPlainSpec)

/-- 'pledgelaw06.ConfDecl', WHERE WHAT IT READS IS OF BULK AT MOST 1048576: true; the input reads as it did. -/
def confDeclUptoRow : OpenClaim := { program := "ythkeefdapnkgeaa", sum := "c6a3d363561ca8d4e396f41fdda8b2c0ea53396293289801f13b577ee00821bc", func := "pledge/pledgelaw06.ConfDecl", spec := "confDecl", unfollowed := true, recurses := true, apart := false, narrowed := true }
def ConfDeclUptoSaid : Prop := confDeclUptoRow.holds Try.pinned (OpenSpec.upto confDeclSpec)

/-- 'pledgelaw06.ConfSmall', WHERE WHAT IT READS IS OF BULK AT MOST 1048576: true; the input reads as it did. -/
def confSmallUptoRow : OpenClaim := { program := "ythkeefdapnkgeaa", sum := "c6a3d363561ca8d4e396f41fdda8b2c0ea53396293289801f13b577ee00821bc", func := "pledge/pledgelaw06.ConfSmall", spec := "confSmall", unfollowed := true, recurses := true, apart := false, narrowed := true }
def ConfSmallUptoSaid : Prop := confSmallUptoRow.holds Try.pinned (OpenSpec.upto confSmallSpec)

end Rows
end Go.Proofs.Ythkeefdapnkgeaa
