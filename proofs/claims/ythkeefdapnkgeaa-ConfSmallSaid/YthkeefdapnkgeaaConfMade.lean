/- The plain configuration, as the program makes it. -/
import Derived.Test.YthkeefdapnkgeaaConfFields
import Derived.Deep.WholeRow
namespace Go.Proofs.Ythkeefdapnkgeaa
open Go.RowKit Go.ChangeShapes Go.WideShapes
set_option linter.unusedVariables false
set_option linter.unusedSimpArgs false

theorem cc_one (C : Cf) : (cc C).all (·.oneCell') = true := by simp [cc, Value.oneCell']
/-- A whole configuration into the block that was made last. -/
theorem wpList_store_new {ops : Array Oper} {rest : List Oper} {a : Act} {w0 : World} {Q : Exit → Act → World → Prop} {dst : Option Tmp} {x y : Operand} {ty : TypeId} {pos : String} {after : Array Edge} {old : Array Value} {C : Cf} (ho : old.size = 26)
    (hx : a.eval x = .pointer (some ⟨w0.heap.size, 0, none⟩)) (hy : a.eval y = .agg (cc C))
    (h : wpList Try.prog ops Q rest (a.put dst undef) (w0.alloc (.cells (cc C) 30))) : wpList Try.prog ops Q (Oper.mk dst (.store 30 x y) ty pos after none :: rest) a (w0.alloc (.cells old 30)) := by
  refine wpList_store_row rfl 30 x y rfl w0.heap.size (cc C) hx hy 30 old (alloc_block _ _) (by kernel_rfl) (by rw [ho]; rfl) (cc_one C) ?_
  rw [World.setRow_alloc_new]
  exact h
/-- A whole configuration into an elder block. -/
theorem wpList_store_cf {ops : Array Oper} {rest : List Oper} {a : Act} {w : World} {Q : Exit → Act → World → Prop} {dst : Option Tmp} {x y : Operand} {ty : TypeId} {pos : String} {after : Array Edge} {B : Nat} {old : Array Value} {C : Cf} (hB : w.heap[B]? = some (.cells old 30 (0, 0))) (ho : old.size = 26)
    (hx : a.eval x = .pointer (some ⟨B, 0, none⟩)) (hy : a.eval y = .agg (cc C))
    (h : wpList Try.prog ops Q rest (a.put dst undef) (w.setRow B (cc C))) : wpList Try.prog ops Q (Oper.mk dst (.store 30 x y) ty pos after none :: rest) a w :=
  wpList_store_row rfl 30 x y rfl B (cc C) hx hy 30 old hB (by kernel_rfl) (by rw [ho]; rfl) (cc_one C) h
theorem CB.setRow {w : World} {B : Nat} {old : Array Value} (C : Cf) (hB : w.heap[B]? = some (.cells old 30 (0, 0))) : CB (w.setRow B (cc C)) B C := setRow_heap w B old (cc C) _ _ hB
theorem CB.put {w : World} {B : Nat} {C : Cf} (h : CB w B C) (j : Nat) (x : Int) (hj : j < 16) : CB (w.setCell ⟨B, 3 + j, none⟩ (.int .u8 x)) B { C with pr := fun q => if q = j then x else C.pr q } := by
  have := block_put (3 + j) (.int .u8 x) h
  unfold CB
  rw [this]
  rcases (by omega : j = 0 ∨ j = 1 ∨ j = 2 ∨ j = 3 ∨ j = 4 ∨ j = 5 ∨ j = 6 ∨ j = 7 ∨ j = 8 ∨ j = 9 ∨ j = 10 ∨ j = 11 ∨ j = 12 ∨ j = 13 ∨ j = 14 ∨ j = 15) with rfl | rfl | rfl | rfl | rfl | rfl | rfl | rfl | rfl | rfl | rfl | rfl | rfl | rfl | rfl | rfl <;> rfl
theorem CB.congr {w : World} {B : Nat} {C C' : Cf} (h : CB w B C) (he : cc C = cc C') : CB w B C' := by
  unfold CB at *
  rw [h, he]
theorem cc_pr (C : Cf) (f g : Nat → Int) (h : ∀ q, q < 16 → f q = g q) : cc { C with pr := f } = cc { C with pr := g } := by
  simp only [cc]
  rw [h 0 (by omega), h 1 (by omega), h 2 (by omega), h 3 (by omega), h 4 (by omega), h 5 (by omega), h 6 (by omega), h 7 (by omega), h 8 (by omega), h 9 (by omega), h 10 (by omega), h 11 (by omega), h 12 (by omega), h 13 (by omega), h 14 (by omega), h 15 (by omega)]
theorem CB.putF {w : World} {B : Nat} {C : Cf} (h : CB w B C) (p : Option Addr) (n c : Nat) : CB (w.setCell ⟨B, 2, none⟩ (.slice p n c)) B { C with fp := p, fn := n, fc := c } := block_put 2 _ h
theorem CB.putS {w : World} {B : Nat} {C : Cf} (h : CB w B C) (x : Int) : CB (w.setCell ⟨B, 25, none⟩ (.int .i64 x)) B { C with bs := x } := block_put 25 _ h
theorem CB.lt {w : World} {B : Nat} {C : Cf} (h : CB w B C) : B < w.heap.size := block_lt h
theorem CB.far {w : World} {B R : Nat} {C : Cf} (h : CB w B C) (j : Nat) (u : Value) (hR : B ≠ R) : CB (w.setCell ⟨R, j, none⟩ u) B C := (Below.heap_setCell _ _ _ _ hR).trans h
theorem SlG.put {α : Type} {enc : α → List Value} {k : Nat} {d : α} {w : World} {p : Option Addr} {n c : Nat} {L : List α} (h : SlG enc k d w p n c L) (B j : Nat) (u : Value) (hne : ∀ a, p = some a → a.block ≠ B) : SlG enc k d (w.setCell ⟨B, j, none⟩ u) p n c L :=
  h.turn (by simp) fun _ a ha _ => Below.heap_setCell _ _ _ _ (hne a ha)
theorem SlG.setRow {α : Type} {enc : α → List Value} {k : Nat} {d : α} {w : World} {p : Option Addr} {n c : Nat} {L : List α} (h : SlG enc k d w p n c L) (B : Nat) (cs : Array Value) (hne : ∀ a, p = some a → a.block ≠ B) : SlG enc k d (w.setRow B cs) p n c L :=
  h.turn (by simp) fun _ a ha _ => setRow_other _ _ _ _ (hne a ha)
/-- Prio, of which the first a rows, and of the next one the first b places, are laid. -/
def prK (w a b : Nat) (j : Nat) : Int := if (j / 4 < a ∧ j % 4 < w) ∨ (j / 4 = a ∧ j % 4 < b) then ((j % 4 : Nat) : Int) else 0
theorem prK_put (w a b : Nat) (hb : b < 4) (q : Nat) : (if q = a * 4 + b then (b : Int) else prK w a b q) = prK w a (b + 1) q := by
  unfold prK
  by_cases hq : q = a * 4 + b
  · rw [if_pos hq, if_pos (by omega), show q % 4 = b by omega]
  · rw [if_neg hq]
    by_cases h1 : (q / 4 < a ∧ q % 4 < w) ∨ (q / 4 = a ∧ q % 4 < b)
    · rw [if_pos h1, if_pos (by omega)]
    · rw [if_neg h1, if_neg (by omega)]
theorem prK_row (w a : Nat) (q : Nat) : prK w a w q = prK w (a + 1) 0 q := by
  unfold prK
  by_cases h1 : (q / 4 < a ∧ q % 4 < w) ∨ (q / 4 = a ∧ q % 4 < w)
  · rw [if_pos h1, if_pos (by omega)]
  · rw [if_neg h1, if_neg (by omega)]
/-- The plain configuration of some articles and warehouses, but for how many blocks there are. -/
def pcf (s w : Nat) (p : Option Addr) (n c : Nat) (f : Nat → Int) (bs : Int) : Cf := { s := s, w := w, fp := p, fn := n, fc := c, pr := f, sg := 8, od := 32, rt := 2, se := 256, cp := 65536, bk := 256, bs := bs }
end Go.Proofs.Ythkeefdapnkgeaa
