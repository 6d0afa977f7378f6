/- Bytes as Nat and as Int: the bridge between wire's rows and those of the shared texts. -/
import Derived.Test.YtppmokkbepihhaaDoorBytes
import Derived.Test.YtppmokkbepihhaaDoorWireKit
namespace Go.Proofs.YtppmokkbepihhaaDoor
open Go.RowKit Go.ChangeShapes Go.WideShapes
set_option linter.unusedVariables false
set_option maxRecDepth 10000
set_option linter.unusedSimpArgs false

/-- Bytes as whole numbers. -/
def zi (L : List Nat) : List Int := L.map fun x => ((x : Nat) : Int)
theorem zi_len (L : List Nat) : (zi L).length = L.length := by simp [zi]
theorem zi_append (L M : List Nat) : zi (L ++ M) = zi L ++ zi M := by simp [zi]
theorem zi_take (L : List Nat) (k : Nat) : zi (L.take k) = (zi L).take k := by simp [zi]
theorem zi_drop (L : List Nat) (k : Nat) : zi (L.drop k) = (zi L).drop k := by simp [zi]
theorem zi_getD (L : List Nat) (j : Nat) : (zi L).getD j 0 = ((L.getD j 0 : Nat) : Int) := by
  simp only [zi, List.getD, List.getElem?_map]
  cases L[j]? <;> rfl
theorem zi_inj {L M : List Nat} (h : zi L = zi M) : L = M := by
  have := congrArg (List.map Int.toNat) h
  simpa [zi, List.map_map, Function.comp_def] using this
theorem Sl.bl {w : World} {p : Option Addr} {n c : Nat} {L : List Nat} (h : Sl w p n c L) (hm : c ≤ maxLen) : BL w p n c (zi L) := by
  refine BL.mk (by rw [zi_len]; exact h.len) h.cap hm h.nil fun h0 => ?_
  obtain ⟨b, off, hp, hlt, hc⟩ := h.blk h0
  exact ⟨b, off, hp, hlt, fun j hj => by rw [hc j hj, zi_getD]⟩
theorem BL.sl {w : World} {p : Option Addr} {n c : Nat} {L : List Nat} (h : BL w p n c (zi L)) (hl : ∀ x ∈ L, x < 256) : Sl w p n c L ∧ c ≤ maxLen := by
  have h1 := h.len
  rw [zi_len] at h1
  refine ⟨⟨h1, h.cap, h.nil, hl, fun h0 => ?_⟩, h.max⟩
  obtain ⟨b, off, hp, hlt, hc⟩ := h.at h0
  exact ⟨b, off, hp, fun j hj => by rw [hc j hj, zi_getD]⟩
end Go.Proofs.YtppmokkbepihhaaDoor
