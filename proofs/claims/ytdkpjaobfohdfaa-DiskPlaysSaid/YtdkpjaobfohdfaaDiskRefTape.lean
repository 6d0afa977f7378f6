/- What a call on the document's tape leaves, beside the blocks of two results. -/
import Derived.Test.YtdkpjaobfohdfaaDiskRefDo
import Derived.Deep.RegionHeld3
import Derived.StillTailTactics
namespace Go.Proofs.Ytdkpjaobfohdfaa
open Go.RowKit Go.ChangeShapes Go.WideShapes
set_option linter.unusedVariables false
set_option maxRecDepth 10000
set_option linter.unusedSimpArgs false

theorem Chg.drew1 {S : Nat → Prop} {a b : World} (h : Chg S a b) : Chg S a b.drew := ⟨h.os, h.tape, h.output, h.size, h.block⟩
def TOut (W1 w' : World) (Q : Nat → Prop) (z : Nat) (t' : TS) (R0 R1 : Nat) (e : Ending) (w5 : World) : Prop :=
  ∃ p5 c5 n5 F5, e = .returned (.agg #[.slice p5 n5 c5, .int .i64 (F5 : Nat), .int .i64 (z : Nat)]) ∧ Hid (t'.B.length = n5) ∧ Hid (t'.f * z = F5) ∧ Hid (Rt w5 p5 c5 t'.B) ∧ Hid (0 < t'.B.length → ∀ a, p5 = some a → Q a.block ∧ a.block ≠ R0 ∧ a.block ≠ R1) ∧ Chg (fun k => k = R0 ∨ k = R1) W1 w5 ∧ w5.heap[R0]? = w'.heap[R0]? ∧ w5.heap[R1]? = w'.heap[R1]?
theorem tape_any {W1 w' : World} {Q : Nat → Prop} {fn : _} {args : Array Value} {z R0 R1 : Nat} {tp : Option Addr} {t t' : TS} (hc : Chg (fun k => k = R0 ∨ k = R1) W1 w') (hcall : Calls Try.prog fn args w' (RefGives w' tp z t t')) (htq : 0 < t.B.length → ∀ a, tp = some a → Q a.block ∧ a.block ≠ R0 ∧ a.block ≠ R1) (hQ : ∀ k, W1.heap.size ≤ k → Q k) (h0 : R0 < W1.heap.size) (h1 : R1 < W1.heap.size) : Calls Try.prog fn args w' (TOut W1 w' Q z t' R0 R1) := by
  refine hcall.mono ?_
  rintro e w5 ⟨p5, c5, rfl, g1, g2, g3⟩
  have hs := hc.size
  refine ⟨p5, c5, _, _, rfl, Lib.hid rfl, Lib.hid rfl, Lib.hid g1, Lib.hid fun h0 a ha => ?_, hc.trans (Chg.of_below (S := fun k => k = R0 ∨ k = R1) g3) fun _ _ h => h, g3.block _ (by omega), g3.block _ (by omega)⟩
  rcases g2 h0 a ha with ⟨a', ha', he, hp⟩ | hge
  · have := htq hp a' ha'
    rw [← he]
    exact this
  · exact ⟨hQ _ (by omega), by omega, by omega⟩
/-- The tape's result is written last. -/
theorem one_done {W : World} {R0 R1 : Nat} {x0 x1 v0 v1 v2 : Value} (y0 y1 y2 : Value) (h0 : W.heap[R0]? = some (.cells #[x0, x1] 30 (0, 0))) (h1 : W.heap[R1]? = some (.cells #[v0, v1, v2] 33 (0, 0))) (hne : R0 ≠ R1) :
    (((W.setCell ⟨R1, 0, none⟩ y0).setCell ⟨R1, 1, none⟩ y1).setCell ⟨R1, 2, none⟩ y2).heap[R0]? = some (.cells #[x0, x1] 30 (0, 0)) ∧
    (((W.setCell ⟨R1, 0, none⟩ y0).setCell ⟨R1, 1, none⟩ y1).setCell ⟨R1, 2, none⟩ y2).heap[R1]? = some (.cells #[y0, y1, y2] 33 (0, 0)) ∧
    Chg (fun k => k = R0 ∨ k = R1) W (((W.setCell ⟨R1, 0, none⟩ y0).setCell ⟨R1, 1, none⟩ y1).setCell ⟨R1, 2, none⟩ y2) := by
  have ha : Chg (fun k => k = R1) W (((W.setCell ⟨R1, 0, none⟩ y0).setCell ⟨R1, 1, none⟩ y1).setCell ⟨R1, 2, none⟩ y2) := (((Chg.refl (fun k => k = R1) _).setCell ⟨R1, 0, none⟩ _ fun _ => rfl).setCell ⟨R1, 1, none⟩ _ fun _ => rfl).setCell ⟨R1, 2, none⟩ _ fun _ => rfl
  exact ⟨(ha.block R0 (block_lt h0) hne).trans h0, block_put 2 _ (block_put 1 _ (block_put 0 _ h1)), ha.mono fun _ _ h => Or.inr h⟩
theorem BL.take {w : World} {p : Option Addr} {n c : Nat} {L : List Int} (h : BL w p n c L) (k : Nat) (hk : k ≤ n) : BL w p k c (L.take k) := by
  refine ⟨by rw [List.length_take, h.len]; omega, Nat.le_trans hk h.cap, h.max, h.nil, fun h0 => ?_⟩
  obtain ⟨b, off, hp, hlt, hc⟩ := h.cell (by omega)
  refine ⟨b, off, hp, hlt, fun j hj i v hv => hc j (by omega) i v ?_⟩
  have e : (L.take k).getD j 0 = L.getD j 0 := by rw [List.getD, List.getD, List.getElem?_take, if_pos hj]
  rw [e] at hv
  exact hv
end Go.Proofs.Ytdkpjaobfohdfaa
