/- Rows of numbers in memory: what both sums answer of any of them. -/
import Derived.Test.YtnmdplefedffnaaDoorCalcRefSum
import Derived.OpenShut
namespace Go.Proofs.YtnmdplefedffnaaDoor
open Go.RowKit Go.ChangeShapes
set_option linter.unusedVariables false

/-- From p on n numbers lie there, xs. -/
def Row (w : World) (p : Option Addr) (n : Nat) (xs : List Int) : Prop :=
  n = xs.length ∧ (∀ x ∈ xs, -9223372036854775808 ≤ x ∧ x ≤ 9223372036854775807) ∧
    (n = 0 ∨ ∃ b off, p = some ⟨b, off, none⟩ ∧ b < w.heap.size ∧ ∀ j, j < xs.length → w.cell? ⟨b, off + j, none⟩ = some (.int .i64 (xs.getD j 0)))
theorem Row.later {w w' : World} {p : Option Addr} {n : Nat} {xs : List Int} (h : Row w p n xs) (hb : Below w.heap.size w w') : Row w' p n xs := by
  obtain ⟨h1, h2, h3⟩ := h
  refine ⟨h1, h2, ?_⟩
  rcases h3 with h3 | ⟨b, off, hp, hlt, hc⟩
  · exact Or.inl h3
  · exact Or.inr ⟨b, off, hp, Nat.lt_of_lt_of_le hlt hb.size, fun j hj => by rw [hb.cell (p := ⟨b, off + j, none⟩) hlt]; exact hc j hj⟩
theorem sum_of (p : Option Addr) (n cap : Nat) (xs : List Int) (w : World) (h : Row w p n xs) (hbig : n ≤ 1000000) :
    Calls Tryd.prog 35 #[.slice p n cap] w fun e w' => e = .returned (.tuple #[.int .i64 (val (total xs)), .bool (okB (total xs))]) ∧ w = w' := by
  obtain ⟨h1, h2, h3⟩ := h
  rcases h3 with h3 | ⟨b, off, rfl, hlt, hc⟩
  · obtain rfl : xs = [] := List.eq_nil_of_length_eq_zero (by omega)
    subst h3
    have e := sum_none p cap w
    rw [two_in 0 (by omega)] at e
    exact e
  · exact sum_row b off n cap xs w h1 hbig hc h2
/-- The first numbers of a row. -/
theorem row_take {w : World} {x : Addr} {zs : List Int} (k : Nat) (hk : k ≤ zs.length) (hc : ∀ i, i < zs.length → w.cell? (x.add i) = some (.int .i64 (zs.getD i 0))) (hwf : ∀ n ∈ zs, (Lit.int .i64 n).wf = true) : Row w (some x) k (zs.take k) := by
  refine ⟨by simp; omega, fun n hn => bounds_i64 (hwf n (List.mem_of_mem_take hn)), ?_⟩
  by_cases hk0 : k = 0
  · exact Or.inl hk0
  · refine Or.inr ?_
    obtain ⟨b, off, spot⟩ := x
    have h0 := hc 0 (by omega)
    have hspot : spot = none := by simpa [Addr.add] using World.cell?_spot h0
    subst hspot
    refine ⟨b, off, rfl, ?_, fun j hj => ?_⟩
    · exact World.block_lt_of_cell? _ _ h0
    · have hj' : j < k := by simp at hj; omega
      have h := hc j (by omega)
      rw [show (zs.take k).getD j 0 = zs.getD j 0 by simp [List.getD, hj']]
      rw [← Go.WideShapes.add_plain]; exact h
end Go.Proofs.YtnmdplefedffnaaDoor
