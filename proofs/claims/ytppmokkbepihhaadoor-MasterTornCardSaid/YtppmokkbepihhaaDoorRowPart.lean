/- Part of a block loaded, and stored: a struct within a struct. -/
import Derived.Test.YtppmokkbepihhaaDoorBase
import Derived.Laws.Rows
import Derived.Laws.Tables
import Derived.Laws.Cells
namespace Go.Proofs.YtppmokkbepihhaaDoor
open Go.RowKit Go.ChangeShapes Go.WideShapes
set_option linter.unusedVariables false
set_option maxRecDepth 10000

theorem add_none (g i j : Nat) : (⟨g, i, none⟩ : Addr).add j = ⟨g, i + j, none⟩ := by unfold Addr.add; split <;> simp_all
theorem run_loadVar_part {P : Program} (w : World) (g i : Nat) (t ty : TypeId) (cs part : Array Value) (fr : Nat × Nat) (d : TypeDesc) (hg : w.heap[g]? = some (.cells cs t fr)) (hp : ∀ j, j < part.size → cs[i + j]? = part[j]?)
    (hu : P.underlying ty = some d) (hd : (match d with | .struct _ | .array _ _ => true | _ => false) = true) (hi : (P.info? ty).map (·.size) = some part.size) :
    (loadVar ty ⟨g, i, none⟩).run P w = .ok (.agg part) w := by
  have hl : (loadCells ⟨g, i, none⟩ part.toList.length).run P w = .ok part.toList.toArray w :=
    run_loadCells_list (P := P) w ⟨g, i, none⟩ part.toList (fun j v hv => by
      rw [add_none, cell_of_row w g (i + j) cs t fr hg]
      have hj : j < part.size := by
        have := (List.getElem?_eq_some_iff.1 hv).1
        simpa using this
      rw [hp j hj]
      simpa using hv)
  cases hq : P.info? ty with
  | none => simp [hq] at hi
  | some inf =>
    have hs : inf.size = part.size := by simpa [hq] using hi
    have hagg : (isAgg ty).run P w = .ok true w := by
      unfold isAgg
      rw [Sem.run_bind, run_underlying hu w]
      cases d <;> simp_all
    simp only [Array.length_toList, Array.toArray_toList] at hl
    simp [loadVar, Sem.run_bind, hagg, sizeOf, typeInfo, hq, hs, hl]
/-- Cells put into a row from j on. -/
def putAt : Array Value → Nat → List Value → Array Value
  | cur, _, [] => cur
  | cur, j, v :: vs => putAt (cur.setIfInBounds j v) (j + 1) vs
theorem setRow_same {w : World} {g : Nat} {cur : Array Value} {t : TypeId} (hg : w.heap[g]? = some (.cells cur t (0, 0))) : w.setRow g cur = w := by
  have hv : w.heap[g]'(Array.getElem?_eq_some_iff.1 hg).1 = .cells cur t (0, 0) := (Array.getElem?_eq_some_iff.1 hg).2
  unfold World.setRow
  cases w with
  | mk heap tape drawn os output =>
    congr 1
    apply Array.ext
    · simp
    · intro k h1 h2
      simp only [Array.getElem_modify]
      split
      · rename_i hk; subst hk; simp at hv; simp [hv]
      · rfl
theorem run_storeCells_at {P : Program} (g i : Nat) (t : TypeId) : ∀ (vs : List Value) (k : Nat) (cur : Array Value) (w : World), w.heap[g]? = some (.cells cur t (0, 0)) → i + k + vs.length ≤ cur.size → (∀ v ∈ vs, v.oneCell' = true) →
    (storeCells ⟨g, i, none⟩ vs k).run P w = .ok () (w.setRow g (putAt cur (i + k) vs))
  | [], k, cur, w, hg, hl, _ => by
    simp only [storeCells, putAt]
    rw [setRow_same hg]
    rfl
  | v :: rest, k, cur, w, hg, hl, h1 => by
    have hi : i + k < cur.size := by simp at hl; omega
    have hcell : w.cell? ⟨g, i + k, none⟩ = some cur[i + k] := by simp [World.cell?, hg, hi]
    have hfro : w.frozen? ⟨g, i + k, none⟩ = false := by simp [World.frozen?, hg]
    have hst : (store ((⟨g, i, none⟩ : Addr).add k) v).run P w = .ok () (w.setRow g (cur.setIfInBounds (i + k) v)) := by
      rw [add_none, run_store P w _ v _ (h1 v (by simp)), hcell]
      simp [hfro, setCell_eq_setRow w g (i + k) cur t (0, 0) v hg]
    have ih := run_storeCells_at (P := P) g i t rest (k + 1) (cur.setIfInBounds (i + k) v) (w.setRow g (cur.setIfInBounds (i + k) v)) (setRow_heap w g cur _ t _ hg) (by simp at hl ⊢; omega) (fun x hx => h1 x (by simp [hx]))
    simp only [storeCells, Sem.run_bind, hst, Result.andThen_ok, ih, setRow_setRow, putAt]
    rfl
theorem run_storeVar_part {P : Program} (w : World) (g i : Nat) (t ty : TypeId) (old cells : Array Value) (hg : w.heap[g]? = some (.cells old t (0, 0))) (hi : (P.info? ty).map (·.size) = some cells.size)
    (ho : i + cells.size ≤ old.size) (h1 : cells.all (·.oneCell') = true) :
    (storeVar ty ⟨g, i, none⟩ (.agg cells)).run P w = .ok () (w.setRow g (putAt old i cells.toList)) := by
  have := run_storeCells_at (P := P) g i t cells.toList 0 old w hg (by simp; omega) (fun v hv => (Array.all_eq_true_iff_forall_mem.1 h1) v (by simpa using hv))
  cases hq : P.info? ty with
  | none => simp [hq] at hi
  | some inf =>
    have hs : cells.size = inf.size := by simp [hq] at hi; omega
    simp [storeVar, sizeOf, typeInfo, hq, Value.cells, hs, this]
theorem wpList_load_part {P : Program} {ops : Array Oper} {rest : List Oper} {o : Oper} {a : Act} {w : World} {Q : Exit → Act → World → Prop} (hgd : o.guard = none) (ty : TypeId) (x : Operand) (ho : o.op = .load ty x)
    (g i : Nat) (hx : a.eval x = .pointer (some ⟨g, i, none⟩)) (t : TypeId) (cs part : Array Value) (fr : Nat × Nat) (d : TypeDesc) (hg : w.heap[g]? = some (.cells cs t fr)) (hp : ∀ j, j < part.size → cs[i + j]? = part[j]?)
    (hu : P.underlying ty = some d) (hd : (match d with | .struct _ | .array _ _ => true | _ => false) = true) (hi : (P.info? ty).map (·.size) = some part.size)
    (h : wpList P ops Q rest (a.put o.dst (.agg part)) w) : wpList P ops Q (o :: rest) a w :=
  wpList_plain hgd fun _ hK => by
    unfold Oper.wp execOp
    simp only [ho, hx, Instr.loadAt, Instr.sureAddr, Sem.run_bind, Sem.run_pure, Result.andThen_ok, run_loadVar_part w g i t ty cs part fr d hg hp hu hd hi]
    exact hK _ _ h
theorem wpList_store_part {P : Program} {ops : Array Oper} {rest : List Oper} {o : Oper} {a : Act} {w : World} {Q : Exit → Act → World → Prop} (hgd : o.guard = none) (ty : TypeId) (x y : Operand) (ho : o.op = .store ty x y)
    (g i : Nat) (cells : Array Value) (hx : a.eval x = .pointer (some ⟨g, i, none⟩)) (hy : a.eval y = .agg cells)
    (t : TypeId) (old : Array Value) (hg : w.heap[g]? = some (.cells old t (0, 0))) (hi : (P.info? ty).map (·.size) = some cells.size)
    (hold : i + cells.size ≤ old.size) (h1 : cells.all (·.oneCell') = true)
    (h : wpList P ops Q rest (a.put o.dst undef) (w.setRow g (putAt old i cells.toList))) : wpList P ops Q (o :: rest) a w :=
  wpList_plain hgd fun _ hK => by
    unfold Oper.wp execOp
    simp only [ho, hx, hy, Instr.storeAt, Instr.sureAddr, Sem.run_bind, Sem.run_pure, Result.andThen_ok, run_storeVar_part w g i t ty old cells hg hi hold h1]
    exact hK _ _ h
end Go.Proofs.YtppmokkbepihhaaDoor
