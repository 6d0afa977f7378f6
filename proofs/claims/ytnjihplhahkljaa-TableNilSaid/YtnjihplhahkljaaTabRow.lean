/- The document's rows in memory. -/
import Derived.Test.YtnjihplhahkljaaRowG
import Derived.Test.YtnjihplhahkljaaTabMath
import Derived.Test.YtnjihplhahkljaaKeyQuiet
namespace Go.Proofs.Ytnjihplhahkljaa
open Go.RowKit Go.ChangeShapes Go.WideShapes
set_option linter.unusedVariables false

/-- A row's cells. -/
def rc (r : Rw) : List Value := [.int .u8 r.1.1, .int .u8 r.1.2.1, .int .u8 r.1.2.2, .int .i64 r.2]
abbrev r0 : Rw := ((0, 0, 0), 0)
theorem rc_len (r : Rw) : (rc r).length = 4 := rfl
theorem rc_one (r : Rw) : ∀ u ∈ rc r, u.oneCell' = true := by
  intro u hu
  simp only [rc, List.mem_cons, List.not_mem_nil, or_false] at hu
  rcases hu with rfl | rfl | rfl | rfl <;> rfl
abbrev RL (w : World) (p : Option Addr) (n c : Nat) (M : List Rw) : Prop := SlG rc 4 r0 w p n c M
abbrev FillR (W wr : World) (v : Value) (M : List Rw) (N : Nat) : Prop := FillG rc 4 55 W wr v M N
abbrev GivesR (W : World) (M : List Rw) (e : Ending) (w' : World) : Prop := GivesG rc 4 r0 W M e w'
theorem infoRow : (Try.prog.info? 55).map (fun i => (i.zero, i.size, i.bytes)) = some (some (.agg #[.int .u8 0, .int .u8 0, .int .u8 0, .int .i64 0]), 4, 16) := by kernel_rfl
theorem row_news (w : World) (x : Rw) : ∀ i u, (rc x)[i]? = some u → (w.alloc (.cells #[.int .u8 x.1.1, .int .u8 x.1.2.1, .int .u8 x.1.2.2, .int .i64 x.2] 55)).cell? ⟨w.heap.size, i, none⟩ = some u :=
  fun i u hu => block_cell (alloc_block w _) (by simpa [rc] using hu)
theorem row_cells {w : World} {p : Option Addr} {n c : Nat} {M : List Rw} (h : RL w p n c M) {j : Nat} (hj : j < n) : ∃ b off, p = some ⟨b, off, none⟩ ∧ w.cell? ⟨b, off + j * 4, none⟩ = some (.int .u8 (M.getD j r0).1.1) ∧ w.cell? ⟨b, off + j * 4 + 1, none⟩ = some (.int .u8 (M.getD j r0).1.2.1) ∧ w.cell? ⟨b, off + j * 4 + 2, none⟩ = some (.int .u8 (M.getD j r0).1.2.2) ∧ w.cell? ⟨b, off + j * 4 + 3, none⟩ = some (.int .i64 (M.getD j r0).2) := by
  obtain ⟨b, off, rfl, _, hc⟩ := h.cell (by omega)
  exact ⟨b, off, rfl, hc j hj 0 _ rfl, hc j hj 1 _ rfl, hc j hj 2 _ rfl, hc j hj 3 _ rfl⟩
/-- append of one row onto a row of rows. -/
theorem wpList_append_row {w : World} {ops : Array Oper} {rest : List Oper} {o : Oper} {a : Act} {Q : Exit → Act → World → Prop} (hgd : o.guard = none) (s x : Operand)
    (ho : o.op = .call { callee := .builtin .append, args := #[s, x], argTypes := #[26, 26] })
    (base : Nat) (v : Value) (n : Nat) (M : List Rw) (hs : a.eval s = v) (hr : w.ownsRow base 55 4 v n (flatG rc M)) (hn : n ≤ 1000000) (e : Rw) (B : Nat)
    (hx : a.eval x = .slice (some ⟨B, 0, none⟩) 1 1) (hc : ∀ i u, (rc e)[i]? = some u → w.cell? ⟨B, i, none⟩ = some u) (hbase : base ≤ w.heap.size)
    (h : ∀ v' w', w'.ownsRow base 55 4 v' (n + 1) (flatG rc (M ++ [e])) → w.grownBy w' v.ownBlock → wpList Try.prog ops Q rest (a.put o.dst v') w') : wpList Try.prog ops Q (o :: rest) a w :=
  wpList_append_g rc_len rc_one (by decide) hgd s x _ _ ho Try.underlying26 _ 16 infoRow rfl (by omega) base v n M hs hr hn e B hx hc hbase h
/-- The document's Put, row by row. -/
def stP (k : K) (v : Int) (st : Bool × List Rw) (r : Rw) : Bool × List Rw :=
  let s1 := if (!st.1 && !lessB r.1 k) = true then (true, st.2 ++ [(k, v)]) else st
  (s1.1, if r.1 = k then s1.2 else s1.2 ++ [r])
def rputL (M : List Rw) (k : K) (v : Int) : List Rw := if (M.foldl (stP k v) (false, [])).1 = true then (M.foldl (stP k v) (false, [])).2 else (M.foldl (stP k v) (false, [])).2 ++ [(k, v)]
theorem foldP_done (k : K) (v : Int) : ∀ (M out : List Rw), M.foldl (stP k v) (true, out) = (true, out ++ delM M k)
  | [], out => by simp [delM]
  | r :: M, out => by
    rw [List.foldl_cons]
    have h : stP k v (true, out) r = (true, if r.1 = k then out else out ++ [r]) := by simp [stP]
    rw [h, foldP_done k v M]
    by_cases hx : r.1 = k
    · simp [hx, delM]
    · simp [hx, delM]
theorem foldP_put (k : K) (v : Int) : ∀ (M out : List Rw), (if (M.foldl (stP k v) (false, out)).1 = true then (M.foldl (stP k v) (false, out)).2 else (M.foldl (stP k v) (false, out)).2 ++ [(k, v)]) = out ++ putM M k v
  | [], out => by simp [putM]
  | r :: M, out => by
    rw [List.foldl_cons]
    cases hx : lessB r.1 k with
    | true =>
      have hne : ¬ r.1 = k := fun e => by rw [e, less_irrefl] at hx; cases hx
      have h : stP k v (false, out) r = (false, out ++ [r]) := by simp [stP, hx, hne]
      rw [h, foldP_put k v M (out ++ [r]), putM, if_pos hx, List.append_assoc]
      rfl
    | false =>
      have h : stP k v (false, out) r = (true, if r.1 = k then out ++ [(k, v)] else out ++ [(k, v)] ++ [r]) := by simp [stP, hx]
      have hn : ¬ lessB r.1 k = true := by simp [hx]
      have hi : putM (r :: M) k v = (k, v) :: delM (r :: M) k := by rw [putM, if_neg hn]
      rw [h, foldP_done, hi]
      by_cases hxk : r.1 = k
      · simp [hxk, delM]
      · simp [hxk, delM]
theorem rput_put (M : List Rw) (k : K) (v : Int) : rputL M k v = putM M k v := by
  have := foldP_put k v M []
  simpa [rputL] using this
theorem takeP_fold (k : K) (v : Int) (M : List Rw) (j : Nat) (h : j < M.length) : (M.take (j + 1)).foldl (stP k v) (false, []) = stP k v ((M.take j).foldl (stP k v) (false, [])) (M.getD j r0) := by
  rw [List.take_add_one, List.foldl_append]
  simp [List.getD, List.getElem?_eq_getElem h]
end Go.Proofs.Ytnjihplhahkljaa
