/- Arrays held against themselves. -/
import Derived.Test.YthkeefdapnkgeaaConfNeed
import Derived.ChangeKeysEq
namespace Go.Proofs.Ythkeefdapnkgeaa
open Go.RowKit Go.ChangeShapes Go.WideShapes
set_option linter.unusedVariables false
set_option linter.unusedSimpArgs false

theorem eqItems_same {P : Program} (w : World) (d : Nat) (e : TypeId) (c : Nat) (xs : Array Value) : ∀ is : List Nat, (∀ i ∈ is, ∃ v, (part e xs (i * c)).run P w = .ok v w ∧ (Op.equalIn d e v v).run P w = .ok true w) →
    (Op.eqItems d e c xs xs is).run P w = .ok true w
  | [], _ => by simp [Op.eqItems]
  | i :: is, h => by
    obtain ⟨v, h1, h2⟩ := h i (by simp)
    simp only [Op.eqItems, Sem.run_bind, h1, h2, Result.andThen_ok]
    simpa using eqItems_same w d e c xs is fun j hj => h j (by simp [hj])
theorem info_some {P : Program} {t : TypeId} {n : Nat} (h : (P.info? t).map (fun i => i.size) = some n) : ∃ i, P.info? t = some i := by
  cases hq : P.info? t with
  | none => simp [hq] at h
  | some i => exact ⟨i, rfl⟩
theorem boolCells1 : Try.prog.cellsOf 4 = 1 := by kernel_rfl
theorem byteCells1 : Try.prog.cellsOf 5 = 1 := by kernel_rfl
theorem rowCells1 : Try.prog.cellsOf 27 = 4 := by kernel_rfl
theorem eq_bools (w : World) (d : Nat) (x : Array Value) (f : Nat → Bool) (hx : ∀ i, i < 4 → x[i]? = some (.bool (f i))) : (Op.equalIn (d + 2) 59 (.agg x) (.agg x)).run Try.prog w = .ok true w := by
  obtain ⟨i, hi⟩ := info_some (P := Try.prog) (t := 4) (n := 1) (by kernel_rfl)
  rw [run_equalIn_array w (d + 1) x x Try.underlying59 hi, boolCells1]
  refine eqItems_same w _ _ _ x _ fun j hj => ⟨.bool (f j), ?_, ?_⟩
  · have h := hx j (List.mem_range.1 hj)
    rw [Nat.mul_one]
    simp [part, Sem.run_bind, Try.isAgg4, h, Result.andThen]
  · rw [run_equalIn_bool' w d _ _ _ Try.underlying4, beq_self_eq_true]
theorem eq_bytes (w : World) (d : Nat) (x : Array Value) (f : Nat → Int) (hx : ∀ i, i < 4 → x[i]? = some (.int .u8 (f i))) : (Op.equalIn (d + 2) 27 (.agg x) (.agg x)).run Try.prog w = .ok true w := by
  obtain ⟨i, hi⟩ := info_some (P := Try.prog) (t := 5) (n := 1) (by kernel_rfl)
  rw [run_equalIn_array w (d + 1) x x Try.underlying27 hi, byteCells1]
  refine eqItems_same w _ _ _ x _ fun j hj => ⟨.int .u8 (f j), ?_, ?_⟩
  · have h := hx j (List.mem_range.1 hj)
    rw [Nat.mul_one]
    simp [part, Sem.run_bind, Try.isAgg5, h, Result.andThen]
  · rw [run_equalIn_int w d _ _ _ _ _ Try.underlying5, beq_self_eq_true]
theorem eq_rows (w : World) (d : Nat) (x : Array Value) (f : Nat → Int) (hx : ∀ i, i < 16 → x[i]? = some (.int .u8 (f i))) : (Op.equalIn (d + 3) 28 (.agg x) (.agg x)).run Try.prog w = .ok true w := by
  obtain ⟨i, hi⟩ := info_some (P := Try.prog) (t := 27) (n := 4) (by kernel_rfl)
  rw [run_equalIn_array w (d + 2) x x Try.underlying28 hi, rowCells1]
  refine eqItems_same w _ _ _ x _ fun j hj => ⟨.agg (x.extract (j * 4) (j * 4 + 4)), ?_, ?_⟩
  · simp [part, Sem.run_bind, Try.isAgg27, Try.sizeOf27, Result.andThen]
  · have hj' : j < 4 := List.mem_range.1 hj
    refine eq_bytes w d _ (fun i => f (j * 4 + i)) fun i hi => ?_
    have h := hx (j * 4 + i) (by omega)
    rw [Array.getElem?_extract]
    rw [if_pos (by have := (Array.getElem?_eq_some_iff.1 (hx 15 (by omega))).1; omega)]
    exact h
theorem bools_neq (w : World) (x : Array Value) (f : Nat → Bool) (hx : ∀ i, i < 4 → x[i]? = some (.bool (f i))) : (binOp .neq 59 (.agg x) (.agg x)).run Try.prog w = .ok (.bool false) w := by
  rw [run_neq_struct, eq_bools w 9998 x f hx]
  rfl
theorem rows_eql (w : World) (x : Array Value) (f : Nat → Int) (hx : ∀ i, i < 16 → x[i]? = some (.int .u8 (f i))) : (binOp .eql 28 (.agg x) (.agg x)).run Try.prog w = .ok (.bool true) w := by
  rw [run_eql_struct, eq_rows w 9997 x f hx]
  rfl
end Go.Proofs.Ythkeefdapnkgeaa
