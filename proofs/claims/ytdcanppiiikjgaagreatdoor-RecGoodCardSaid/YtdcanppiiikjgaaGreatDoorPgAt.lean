/- A step of one line; what takes name at a warehouse: the document's way. -/
import Derived.Test.YtdcanppiiikjgaaGreatDoorGrProgb
import Derived.Test.YtdcanppiiikjgaaGreatDoorGrBase
import Derived.Test.YtdcanppiiikjgaaGreatDoorGrStepb
import Derived.Laws.CopyOwn
import Derived.Laws.Tables
import Derived.Laws.ResultCell
namespace Go.Proofs.YtdcanppiiikjgaaGreatDoor
open Go.RowKit Go.ChangeShapes Go.WideShapes
set_option linter.unusedVariables false
set_option linter.unusedSimpArgs false
set_option maxRecDepth 10000

/-- What a call that hands back a step with lines of its own says. -/
def GivesT (W : World) (t w : Int) (L : List Ln) (e : Ending) (w' : World) : Prop := ∃ p c, e = .returned (.agg #[.int .u8 t, .int .u8 w, .slice p L.length c]) ∧ LL w' p L.length c L ∧ Below W.heap.size W w' ∧ ∀ ad, p = some ad → W.heap.size ≤ ad.block
theorem info_line : (Tryz.prog.info? 110).map (fun i => (i.zero, i.size, i.bytes)) = some (some (.agg #[.int .u8 0, .int .i64 0]), 2, 16) := by kernel_rfl
theorem line_news (w : World) (x : Ln) : ∀ ad, (some (⟨w.heap.size, 0, none⟩ : Addr)) = some ad → ∀ j u, (flatG lc [x])[j]? = some u → (w.alloc (.cells #[.int .u8 x.1, .int .i64 x.2] 110)).cell? (ad.add j) = some u := by
  intro ad he j u hu
  cases he
  rw [Go.WideShapes.add_plain, Nat.zero_add]
  refine block_cell (alloc_block w _) ?_
  rw [flatG_one] at hu
  simpa [lc] using hu
theorem line_lit (w : World) (x : Ln) : LL (w.alloc (.cells #[.int .u8 x.1, .int .i64 x.2] 110)) (some ⟨w.heap.size, 0, none⟩) 1 1 [x] := by
  have hr := alloc_block w (.cells #[.int .u8 x.1, .int .i64 x.2] 110)
  refine ⟨rfl, Nat.le_refl _, by unfold maxLen; omega, (fun h => by cases h), fun _ => ⟨_, 0, rfl, block_lt hr, fun j hj i v hv => ?_⟩⟩
  refine block_cell hr ?_
  have hi : i < 2 := (List.getElem?_eq_some_iff.1 hv).1
  obtain rfl : j = 0 := by omega
  rcases (by omega : i = 0 ∨ i = 1) with rfl | rfl <;> exact hv
/-- A step that is being made: its cells in block X, its lines in a row of their own. -/
structure Mk (W w : World) (X : Nat) (t r : Int) (v : Value) (L : List Ln) : Prop where
  box : w.heap[X]? = some (.cells #[.int .u8 t, .int .u8 r, v] 147 (0, 0))
  own : w.ownsRow (X + 1) 110 2 v L.length (flatG lc L)
  below : Below W.heap.size W w
  elder : W.heap.size ≤ X
theorem Mk.later {W w w' : World} {X : Nat} {t r : Int} {v : Value} {L : List Ln} (h : Mk W w X t r v L) (hb : Below w.heap.size w w') : Mk W w' X t r v L := by
  refine ⟨block_later h.box hb, ⟨h.own.1, ?_⟩, h.below.trans (hb.mono h.below.size), h.elder⟩
  rcases h.own.2 with hn | ⟨g, cap, cur, rfl, h1, h2, h3⟩
  · exact .inl hn
  · exact .inr ⟨g, cap, cur, rfl, h1, (hb.block g (Array.getElem?_eq_some_iff.1 h2).1).trans h2, h3⟩
/-- The row has grown; the box still holds the elder value. -/
structure Mk2 (W w : World) (X : Nat) (t r : Int) (v v' : Value) (L : List Ln) : Prop where
  box : w.heap[X]? = some (.cells #[.int .u8 t, .int .u8 r, v] 147 (0, 0))
  own : w.ownsRow (X + 1) 110 2 v' L.length (flatG lc L)
  below : Below W.heap.size W w
  elder : W.heap.size ≤ X
theorem Mk.app {W w w' : World} {X : Nat} {t r : Int} {v : Value} {L M : List Ln} {p : Option Addr} {n c : Nat} (h : Mk W w X t r v L) (h1 : w'.ownsRow 0 110 2 (.slice p n c) n (flatG lc L ++ flatG lc M)) (h2 : Chg (fun b => v.ownBlock = some b) w w') (h3 : ∀ b, (Value.slice p n c).ownBlock = some b → v.ownBlock = some b ∨ w.heap.size ≤ b) : Mk2 W w' X t r v (.slice p n c) (L ++ M) := by
  have hX := block_lt h.box
  have hlen : (L ++ M).length = n := by
    have := h1.1
    rw [← flatG_append, flatG_len lc_len] at this
    omega
  refine ⟨(h2.block X hX fun hv => by have := (h.own.lt X hv).1; omega).trans h.box, ?_, Chg.below h.below h.below.size h2 fun k hk => by have := (h.own.lt k hk).1; have := h.elder; omega, h.elder⟩
  rw [hlen]
  rw [← flatG_append] at h1
  refine ⟨h1.1, ?_⟩
  rcases h1.2 with hn | ⟨g, cap, cur, he, g1, g2, g3⟩
  · exact .inl hn
  · refine .inr ⟨g, cap, cur, he, ?_, g2, g3⟩
    rcases h3 g (by rw [he]; rfl) with hk | hk
    · exact (h.own.lt g hk).1
    · omega
theorem frozen_of {w : World} {X : Nat} {c : Array Value} {t : TypeId} (h : w.heap[X]? = some (.cells c t (0, 0))) (j : Nat) : w.frozen? ⟨X, j, none⟩ = false := by
  simp [World.frozen?, h]
theorem Mk2.put {W w : World} {X : Nat} {t r : Int} {v v' : Value} {L : List Ln} (h : Mk2 W w X t r v v' L) : Mk W (w.setCell ⟨X, 2, none⟩ v') X t r v' L := by
  refine ⟨by have := block_put 2 v' h.box; simpa using this, ⟨h.own.1, ?_⟩, h.below.setCell (p := ⟨X, 2, none⟩) h.elder _, h.elder⟩
  rcases h.own.2 with hn | ⟨g, cap, cur, rfl, h1, h2, h3⟩
  · exact .inl hn
  · exact .inr ⟨g, cap, cur, rfl, h1, (Below.heap_setCell _ _ _ _ (by show g ≠ X; omega)).trans h2, h3⟩
theorem wpList_store_stc {ops : Array Oper} {rest : List Oper} {a : Act} {w : World} {Q : Exit → Act → World → Prop} {dst : Option Tmp} {x y : Operand} {ty : TypeId} {pos : String} {after : Array Edge} {B : Nat} {t r : Int} {s : Value} (hB : w.heap[B]? = some (.cells #[.int .u8 0, .int .u8 0, .slice none 0 0] 147 (0, 0)))
    (hx : a.eval x = .pointer (some ⟨B, 0, none⟩)) (hy : a.eval y = .agg #[.int .u8 t, .int .u8 r, s]) (hs : (s.oneCell') = true)
    (h : wpList Tryz.prog ops Q rest (a.put dst undef) (w.setRow B #[.int .u8 t, .int .u8 r, s])) : wpList Tryz.prog ops Q (Oper.mk dst (.store 147 x y) ty pos after none :: rest) a w :=
  wpList_store_row rfl 147 x y rfl B #[.int .u8 t, .int .u8 r, s] hx hy 147 #[.int .u8 0, .int .u8 0, .slice none 0 0] hB (by kernel_rfl) rfl (by simp [Value.oneCell'] at hs ⊢; exact hs) h
end Go.Proofs.YtdcanppiiikjgaaGreatDoor
