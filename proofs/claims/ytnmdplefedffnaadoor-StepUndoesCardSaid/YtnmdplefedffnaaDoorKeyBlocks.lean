/- A block in a world: its cells, what a store leaves of it; a key's block. -/
import Derived.Test.YtnmdplefedffnaaDoorKeyMath
import Derived.Test.YtnmdplefedffnaaDoorBase
import Derived.WalkKit
import Derived.Below
import Derived.Laws.ResultCell
import Derived.Laws.StructEq
namespace Go.Proofs.YtnmdplefedffnaaDoor
open Go.RowKit Go.ChangeShapes Go.WideShapes
set_option linter.unusedVariables false

def kv (k : K) : Value := .agg #[.int .u8 k.1, .int .u8 k.2.1, .int .u8 k.2.2]
theorem key_put {w : World} {B : Nat} {x y z : Value} {t : TypeId} (u v q : Value) (h : w.heap[B]? = some (.cells #[x, y, z] t (0, 0))) : (((w.setCell ⟨B, 0, none⟩ u).setCell ⟨B, 1, none⟩ v).setCell ⟨B, 2, none⟩ q).heap[B]? = some (.cells #[u, v, q] t (0, 0)) :=
  block_put 2 q (block_put 1 v (block_put 0 u h))
theorem load_key (R : Nat) (a b c : Int) (W : World) (h0 : W.cell? ⟨R, 0, none⟩ = some (.int .u8 a)) (h1 : W.cell? ⟨R, 1, none⟩ = some (.int .u8 b)) (h2 : W.cell? ⟨R, 2, none⟩ = some (.int .u8 c)) :
    (loadVar 37 ⟨R, 0, none⟩).run Tryd.prog W = .ok (.agg #[.int .u8 a, .int .u8 b, .int .u8 c]) W := by
  unfold loadVar
  go_simp
theorem results_key {fn : Func} (h : fn.results = #[.cell 2 37, .tmp 3]) (tmps : Array Value) (W : World) (R : Nat) (a b c : Int) (v : Value) (hp : tmps.getD 2 undef = .pointer (some ⟨R, 0, none⟩)) (hv : tmps.getD 3 undef = v)
    (h0 : W.cell? ⟨R, 0, none⟩ = some (.int .u8 a)) (h1 : W.cell? ⟨R, 1, none⟩ = some (.int .u8 b)) (h2 : W.cell? ⟨R, 2, none⟩ = some (.int .u8 c)) :
    (results fn tmps).run Tryd.prog W = .ok (.tuple #[.agg #[.int .u8 a, .int .u8 b, .int .u8 c], v]) W := by
  rw [results_cell_tmp h, hp, hv]
  have hl := load_key R a b c W h0 h1 h2
  simp [asAddr, Result.andThen, hl]

/-- A key that a text may tell. -/
def Canon (k : K) : Prop := (1 ≤ k.1 ∧ k.1 ≤ 4) ∧ (0 ≤ k.2.1 ∧ k.2.1 ≤ 255) ∧ (0 ≤ k.2.2 ∧ k.2.2 ≤ 255) ∧ (3 ≤ k.1 → k.2.2 = 0)
end Go.Proofs.YtnmdplefedffnaaDoor
