/- The document's Put; frame.Next. -/
import Derived.Test.YtppmokkbepihhaaDoorFramePut
namespace Go.Proofs.YtppmokkbepihhaaDoor
open Go.RowKit Go.ChangeShapes Go.WideShapes
set_option linter.unusedVariables false

theorem Row.gives {W w : World} {v : Value} {n : Nat} {L : List Nat} (x : Int) (h : Row w v n L) (hb : Below W.heap.size W w) (hk : ∀ k, v.ownBlock = some k → W.heap.size ≤ k) : GivesE W L x (.returned (.tuple #[v, .int .i64 x])) w := by
  obtain ⟨p, c, rfl, hm, hs, hq⟩ := h.sl
  have := h.len
  subst this
  exact ⟨p, c, rfl, hs, hb, fun a ha => hk _ (hq a ha), hm⟩
/-- A call that hands back bytes (new ones, or ones that lie where q leads), a number and an error. -/
def GivesN (W : World) (q : Option Addr) (L : List Nat) (z : Nat) (x : Int) (e : Ending) (w' : World) : Prop := ∃ p c, e = .returned (.tuple #[.slice p L.length c, .int .i64 (z : Nat), .int .i64 x]) ∧ Sl w' p L.length c L ∧ Below W.heap.size W w' ∧ c ≤ maxLen ∧ ∀ a, p = some a → W.heap.size ≤ a.block ∨ ∃ a', q = some a' ∧ a.block = a'.block
/-- What Next hands back. -/
def nextL (B : List Nat) : List Nat := if nE B = 0 then nP B else []
def nextZ (B : List Nat) : Nat := if nE B = 0 then 6 + nN B else 0
theorem next_bad {B : List Nat} (h : nE B ≠ 0) : nextL B = [] ∧ nextZ B = 0 := ⟨if_neg h, if_neg h⟩
theorem next_ok {B : List Nat} (h : nE B = 0) : nextL B = nP B ∧ nextZ B = 6 + nN B := ⟨if_pos h, if_pos h⟩
theorem givesN_nil (W w : World) {q : Option Addr} (x : Int) (h : Below W.heap.size W w) : GivesN W q [] 0 x (.returned (.tuple #[.slice none 0 0, .int .i64 ((0 : Nat) : Int), .int .i64 x])) w :=
  ⟨none, 0, rfl, Sl.none, h, Nat.zero_le _, fun a h => by cases h⟩
/-- The part of a slice from k on, m bytes. -/
theorem sl_mid {w : World} {b off n c : Nat} {L : List Nat} (h : Sl w (some ⟨b, off, none⟩) n c L) (k m : Nat) (hk : k + m ≤ n) : Sl w (some ⟨b, off + k, none⟩) m (c - k) ((L.drop k).take m) := by
  refine ⟨by rw [List.length_take, List.length_drop, h.len]; omega, by have := h.cap; omega, (fun e => by cases e), fun x hx => h.lt x (List.mem_of_mem_drop (List.mem_of_mem_take hx)), fun h0 => ⟨b, off + k, rfl, fun j hj => ?_⟩⟩
  obtain ⟨b', off', hp, hc⟩ := h.cell (by omega)
  cases hp
  rw [Nat.add_assoc, hc (k + j) (by omega), List.getD, List.getD, List.getElem?_take, if_pos hj, List.getElem?_drop]
theorem numR_two (B : List Nat) (h : 6 ≤ B.length) : numR (0, B.take 6) 2 = ((0, (B.drop 2).take 4), nN B) := by
  unfold numR
  rw [if_pos (by omega), show (2 : Int).toNat = 2 by rfl]
  unfold takeR
  rw [if_pos rfl, if_neg (by simp; omega)]
  unfold nN
  simp [List.take_take, List.drop_take]
theorem numR_four (B : List Nat) (h : 6 ≤ B.length) : numR (0, (B.drop 2).take 4) 4 = ((0, []), nS B) := by
  unfold numR
  rw [if_pos (by omega), show (4 : Int).toNat = 4 by rfl]
  unfold takeR
  rw [if_pos rfl, if_neg (by simp; omega)]
  unfold nS
  simp [List.take_take]
theorem nN_lt {w : World} {p : Option Addr} {n c : Nat} {B : List Nat} (h : Sl w p n c B) : nN B < 65536 := by
  unfold nN
  have h1 := un_lt (B.take 2) fun y hy => h.lt y (List.mem_of_mem_take hy)
  have h2 : (B.take 2).length ≤ 2 := by rw [List.length_take]; omega
  exact Nat.lt_of_lt_of_le h1 (Nat.pow_le_pow_right (n := 256) (by omega) h2)
theorem nS_lt {w : World} {p : Option Addr} {n c : Nat} {B : List Nat} (h : Sl w p n c B) : nS B < 4294967296 := by
  unfold nS
  have h1 := un_lt ((B.drop 2).take 4) fun y hy => h.lt y (List.mem_of_mem_drop (List.mem_of_mem_take hy))
  have h2 : ((B.drop 2).take 4).length ≤ 4 := by rw [List.length_take]; omega
  exact Nat.lt_of_lt_of_le h1 (Nat.pow_le_pow_right (n := 256) (by omega) h2)
end Go.Proofs.YtppmokkbepihhaaDoor
