import Derived.Test.YtccgjdmbongbaaaGreatDoorPA11
import Derived.Deep.OwnRows
namespace Go.Proofs.YtccgjdmbongbaaaGreatDoor
open Go.RowKit Go.ChangeShapes Go.WideShapes Go.Deep
set_option linter.unusedVariables false
set_option maxRecDepth 10000
def kL (L : List K) : List Value := L.flatMap kc
theorem kL_len : ∀ L : List K, (kL L).length = L.length * 3
 | [] => rfl
 | k :: L => by
  have := kL_len L
  unfold kL at *
  rw [List.flatMap_cons, List.length_append, this, List.length_cons]
  show 3 + _ = _
  omega
theorem kL_at : ∀ (L : List K) (j i : Nat), j < L.length → i < 3 → (kL L)[j * 3 + i]? = (kc (L.getD j (0, 0, 0)))[i]?
 | k :: L, 0, i, _, hi => by
  unfold kL
  rw [List.flatMap_cons, List.getElem?_append_left (by show 0 * 3 + i < 3; omega)]
  simp
 | k :: L, j + 1, i, hj, hi => by
  have ih := kL_at L j i (by simpa using hj) hi
  unfold kL at *
  rw [List.flatMap_cons, List.getElem?_append_right (by show 3 ≤ (j + 1) * 3 + i; omega)]
  rw [show (j + 1) * 3 + i - (kc k).length = j * 3 + i by show (j + 1) * 3 + i - 3 = _; omega]
  simpa using ih
structure KL (w : World) (p : Option Addr) (n c : Nat) (L : List K) : Prop where
 len : L.length = n
 cap : n ≤ c
 max : c ≤ maxLen
 nil : p = none → c = 0
 ok : ∀ k ∈ L, Kok k
 cell : 0 < n → ∃ b off, p = some ⟨b, off, none⟩ ∧ ∀ j, j < n →
  w.cell? ⟨b, off + j * 3, none⟩ = some (.int .u8 (L.getD j (0, 0, 0)).1) ∧ w.cell? ⟨b, off + j * 3 + 1, none⟩ = some (.int .u8 (L.getD j (0, 0, 0)).2.1) ∧ w.cell? ⟨b, off + j * 3 + 2, none⟩ = some (.int .u8 (L.getD j (0, 0, 0)).2.2)
theorem KL.later {w w' : World} {p : Option Addr} {n c : Nat} {L : List K} (h : KL w p n c L) (hb : Below w.heap.size w w') : KL w' p n c L := by
 refine ⟨h.len, h.cap, h.max, h.nil, h.ok, fun h0 => ?_⟩
 obtain ⟨b, off, rfl, hc⟩ := h.cell h0
 refine ⟨b, off, rfl, fun j hj => ?_⟩
 obtain ⟨c0, c1, c2⟩ := hc j hj
 have hlt : b < w.heap.size := World.block_lt_of_cell? _ _ c0
 exact ⟨(hb.cell (p := ⟨b, off + j * 3, none⟩) hlt).trans c0, (hb.cell (p := ⟨b, off + j * 3 + 1, none⟩) hlt).trans c1, (hb.cell (p := ⟨b, off + j * 3 + 2, none⟩) hlt).trans c2⟩
theorem KL.empty (w : World) : KL w none 0 0 [] := ⟨rfl, Nat.le_refl _, by unfold maxLen; omega, fun _ => rfl, (fun x h => by cases h), fun h => by omega⟩
theorem KL.take {w : World} {p : Option Addr} {n c : Nat} {L : List K} (h : KL w p n c L) (k : Nat) (hk : k ≤ n) : KL w p k c (L.take k) := by
 refine ⟨by rw [List.length_take, h.len]; omega, Nat.le_trans hk h.cap, h.max, h.nil, fun x hx => h.ok x (List.mem_of_mem_take hx), fun h0 => ?_⟩
 obtain ⟨b, off, hp, hc⟩ := h.cell (by omega)
 refine ⟨b, off, hp, fun j hj => ?_⟩
 have e : (L.take k).getD j (0, 0, 0) = L.getD j (0, 0, 0) := by rw [List.getD, List.getD, List.getElem?_take, if_pos hj]
 rw [e]
 exact hc j (by omega)
theorem Kok.getD {L : List K} (h : ∀ k ∈ L, Kok k) (j : Nat) : Kok (L.getD j (0, 0, 0)) := by
 rw [List.getD]
 by_cases hj : j < L.length
 · rw [List.getElem?_eq_getElem hj]; exact h _ (List.getElem_mem hj)
 · rw [List.getElem?_eq_none (by omega)]; exact ⟨by simp, by simp, by simp⟩
theorem KL.of_own {w : World} {B : Nat} {v : Value} {n : Nat} {L : List K} (h : w.ownsRow B 34 3 v n (kL L)) (hok : ∀ k ∈ L, Kok k) : ∃ p c, v = .slice p n c ∧ KL w p n c L := by
 have hl : L.length = n := by have h1 := h.1; rw [kL_len] at h1; omega
 rcases h.2 with ⟨rfl, rfl⟩ | ⟨g, cap, cur, rfl, h1, h2, h3, h4, h5, h6⟩
 · obtain rfl : L = [] := List.eq_nil_of_length_eq_zero hl
   exact ⟨_, _, rfl, KL.empty w⟩
 · refine ⟨_, _, rfl, hl, h3, h4, (fun hn => by cases hn), hok, fun h0 => ⟨g, 0, rfl, fun j hj => ?_⟩⟩
   have hc : ∀ i, i < 3 → w.cell? ⟨g, 0 + j * 3 + i, none⟩ = (kc (L.getD j (0, 0, 0)))[i]? := fun i hi => by
    rw [Nat.zero_add, h.cellAt (j * 3 + i) (by omega), kL_at L j i (by omega) hi]
   exact ⟨hc 0 (by omega), hc 1 (by omega), hc 2 (by omega)⟩
section
variable {H : Type} {enc : TypeId × Value → H} {P : Program} {w : World} {base : Nat} {spare : Nat → Bool} {held : Bool}
end
end Go.Proofs.YtccgjdmbongbaaaGreatDoor
namespace Go.Proofs.YtccgjdmbongbaaaGreatDoor
open Go.RowKit Go.ChangeShapes Go.WideShapes Go.Maps
set_option linter.unusedVariables false
theorem keyCells : Tryz.prog.cellsOf 34 = 3 := by kernel_rfl
theorem byteCells : Tryz.prog.cellsOf 5 = 1 := by kernel_rfl
end Go.Proofs.YtccgjdmbongbaaaGreatDoor
