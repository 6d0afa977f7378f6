import Derived.Test.YtccgjdmbongbaaaGreatDoorPA03
import Derived.OpenShut
namespace Go.Proofs.YtccgjdmbongbaaaGreatDoor
open Go.RowKit Go.ChangeShapes
set_option linter.unusedVariables false
set_option maxRecDepth 10000
def RowN (w : World) (p : Option Addr) (n : Nat) (xs : List Int) : Prop :=
 n = xs.length ∧ (∀ x ∈ xs, -9223372036854775808 ≤ x ∧ x ≤ 9223372036854775807) ∧
  (n = 0 ∨ ∃ b off, p = some ⟨b, off, none⟩ ∧ b < w.heap.size ∧ ∀ j, j < xs.length → w.cell? ⟨b, off + j, none⟩ = some (.int .i64 (xs.getD j 0)))
theorem RowN.later {w w' : World} {p : Option Addr} {n : Nat} {xs : List Int} (h : RowN w p n xs) (hb : Below w.heap.size w w') : RowN w' p n xs := by
 obtain ⟨h1, h2, h3⟩ := h
 refine ⟨h1, h2, ?_⟩
 rcases h3 with h3 | ⟨b, off, hp, hlt, hc⟩
 · exact Or.inl h3
 · exact Or.inr ⟨b, off, hp, Nat.lt_of_lt_of_le hlt hb.size, fun j hj => by rw [hb.cell (p := ⟨b, off + j, none⟩) hlt]; exact hc j hj⟩
theorem sum_of (p : Option Addr) (n cap : Nat) (xs : List Int) (w : World) (h : RowN w p n xs) (hbig : n ≤ 1000000) :
 Calls Tryz.prog 129 #[.slice p n cap] w fun e w' => e = .returned (.tuple #[.int .i64 (val (total xs)), .bool (okB (total xs))]) ∧ w = w' := by
 obtain ⟨h1, h2, h3⟩ := h
 rcases h3 with h3 | ⟨b, off, rfl, hlt, hc⟩
 · obtain rfl : xs = [] := List.eq_nil_of_length_eq_zero (by omega)
   subst h3
   have e := sum_none p cap w
   rw [two_in 0 (by omega)] at e
   exact e
 · exact sum_row b off n cap xs w h1 hbig hc h2
end Go.Proofs.YtccgjdmbongbaaaGreatDoor
