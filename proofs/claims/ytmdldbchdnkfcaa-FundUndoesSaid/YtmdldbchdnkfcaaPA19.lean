import Derived.Test.YtmdldbchdnkfcaaPA11
import Derived.Test.YtmdldbchdnkfcaaPA18
import Derived.Test.YtmdldbchdnkfcaaPA05
namespace Go.Proofs.Ytmdldbchdnkfcaa
open Go.RowKit Go.ChangeShapes Go.WideShapes
set_option linter.unusedVariables false
set_option maxRecDepth 10000
abbrev FW := GRow Fv
def frc (r : FW) : List Value := [.int .u8 r.1.1, .int .u8 r.1.2.1, .int .u8 r.1.2.2, .int .i64 r.2.lo, .int .i64 r.2.hi, .int .i64 r.2.ba, .int .i64 r.2.inf, .int .i64 r.2.sup, .int .i64 r.2.va]
abbrev fw0 : FW := ((0, 0, 0), fz)
theorem frc_len (r : FW) : (frc r).length = 9 := rfl
theorem frc_one (r : FW) : ∀ u ∈ frc r, u.oneCell' = true := by
 intro u hu
 simp only [frc, List.mem_cons, List.not_mem_nil, or_false] at hu
 rcases hu with rfl | rfl | rfl | rfl | rfl | rfl | rfl | rfl | rfl <;> rfl
abbrev FWL (w : World) (p : Option Addr) (n c : Nat) (M : List FW) : Prop := SlG frc 9 fw0 w p n c M
abbrev FillW (W wr : World) (v : Value) (M : List FW) (N : Nat) : Prop := FillG frc 9 71 W wr v M N
abbrev GivesW (W : World) (M : List FW) (e : Ending) (w' : World) : Prop := GivesG frc 9 fw0 W M e w'
theorem infoFRow : (Try.prog.info? 71).map (fun i => (i.zero, i.size, i.bytes)) = some (some (.agg #[.int .u8 0, .int .u8 0, .int .u8 0, .int .i64 0, .int .i64 0, .int .i64 0, .int .i64 0, .int .i64 0, .int .i64 0]), 9, 56) := by kernel_rfl
theorem frow_news (w : World) (x : FW) : ∀ i u, (frc x)[i]? = some u → (w.alloc (.cells #[.int .u8 x.1.1, .int .u8 x.1.2.1, .int .u8 x.1.2.2, .int .i64 x.2.lo, .int .i64 x.2.hi, .int .i64 x.2.ba, .int .i64 x.2.inf, .int .i64 x.2.sup, .int .i64 x.2.va] 71)).cell? ⟨w.heap.size, i, none⟩ = some u :=
 fun i u hu => block_cell (alloc_block w _) (by simpa [frc] using hu)
theorem frow_cells {w : World} {p : Option Addr} {n c : Nat} {M : List FW} (h : FWL w p n c M) {j : Nat} (hj : j < n) : ∃ b off, p = some ⟨b, off, none⟩ ∧ w.cell? ⟨b, off + j * 9, none⟩ = some (.int .u8 (M.getD j fw0).1.1) ∧ w.cell? ⟨b, off + j * 9 + 1, none⟩ = some (.int .u8 (M.getD j fw0).1.2.1) ∧ w.cell? ⟨b, off + j * 9 + 2, none⟩ = some (.int .u8 (M.getD j fw0).1.2.2) ∧ w.cell? ⟨b, off + j * 9 + 3, none⟩ = some (.int .i64 (M.getD j fw0).2.lo) ∧ w.cell? ⟨b, off + j * 9 + 4, none⟩ = some (.int .i64 (M.getD j fw0).2.hi) ∧ w.cell? ⟨b, off + j * 9 + 5, none⟩ = some (.int .i64 (M.getD j fw0).2.ba) ∧ w.cell? ⟨b, off + j * 9 + 6, none⟩ = some (.int .i64 (M.getD j fw0).2.inf) ∧ w.cell? ⟨b, off + j * 9 + 7, none⟩ = some (.int .i64 (M.getD j fw0).2.sup) ∧ w.cell? ⟨b, off + j * 9 + 8, none⟩ = some (.int .i64 (M.getD j fw0).2.va) := by
 obtain ⟨b, off, rfl, _, hc⟩ := h.cell (by omega)
 exact ⟨b, off, rfl, hc j hj 0 _ rfl, hc j hj 1 _ rfl, hc j hj 2 _ rfl, hc j hj 3 _ rfl, hc j hj 4 _ rfl, hc j hj 5 _ rfl, hc j hj 6 _ rfl, hc j hj 7 _ rfl, hc j hj 8 _ rfl⟩
theorem wpList_append_frow {w : World} {ops : Array Oper} {rest : List Oper} {o : Oper} {a : Act} {Q : Exit → Act → World → Prop} (hgd : o.guard = none) (s x : Operand)
 (ho : o.op = .call { callee := .builtin .append, args := #[s, x], argTypes := #[26, 26] })
 (base : Nat) (v : Value) (n : Nat) (M : List FW) (hs : a.eval s = v) (hr : w.ownsRow base 71 9 v n (flatG frc M)) (hn : n ≤ 1000000) (e : FW) (B : Nat)
 (hx : a.eval x = .slice (some ⟨B, 0, none⟩) 1 1) (hc : ∀ i u, (frc e)[i]? = some u → w.cell? ⟨B, i, none⟩ = some u) (hbase : base ≤ w.heap.size)
 (h : ∀ v' w', w'.ownsRow base 71 9 v' (n + 1) (flatG frc (M ++ [e])) → w.grownBy w' v.ownBlock → wpList Try.prog ops Q rest (a.put o.dst v') w') : wpList Try.prog ops Q (o :: rest) a w :=
 wpList_append_g frc_len frc_one (by decide) hgd s x _ _ ho Try.underlying26 _ 56 infoFRow rfl (by omega) base v n M hs hr hn e B hx hc hbase h
def stG (k : K) (v : Fv) (st : Bool × List FW) (r : FW) : Bool × List FW :=
 let s1 := if (!st.1 && !lessB r.1 k) = true then (true, st.2 ++ [(k, v)]) else st
 (s1.1, if r.1 = k then s1.2 else s1.2 ++ [r])
def fputL (M : List FW) (k : K) (v : Fv) : List FW := if (M.foldl (stG k v) (false, [])).1 = true then (M.foldl (stG k v) (false, [])).2 else (M.foldl (stG k v) (false, [])).2 ++ [(k, v)]
theorem foldG_done (k : K) (v : Fv) : ∀ (M out : List FW), M.foldl (stG k v) (true, out) = (true, out ++ delG M k)
 | [], out => by simp [delG]
 | r :: M, out => by
  rw [List.foldl_cons]
  have h : stG k v (true, out) r = (true, if r.1 = k then out else out ++ [r]) := by simp [stG]
  rw [h, foldG_done k v M]
  by_cases hx : r.1 = k
  · simp [hx, delG]
  · simp [hx, delG]
theorem foldG_put (k : K) (v : Fv) : ∀ (M out : List FW), (if (M.foldl (stG k v) (false, out)).1 = true then (M.foldl (stG k v) (false, out)).2 else (M.foldl (stG k v) (false, out)).2 ++ [(k, v)]) = out ++ putG M k v
 | [], out => by simp [putG]
 | r :: M, out => by
  rw [List.foldl_cons]
  cases hx : lessB r.1 k with
  | true =>
   have hne : ¬ r.1 = k := fun e => by rw [e, less_irrefl] at hx; cases hx
   have h : stG k v (false, out) r = (false, out ++ [r]) := by simp [stG, hx, hne]
   rw [h, foldG_put k v M (out ++ [r]), putG, if_pos hx, List.append_assoc]
   rfl
  | false =>
   have h : stG k v (false, out) r = (true, if r.1 = k then out ++ [(k, v)] else out ++ [(k, v)] ++ [r]) := by simp [stG, hx]
   have hn : ¬ lessB r.1 k = true := by simp [hx]
   have hi : putG (r :: M) k v = (k, v) :: delG (r :: M) k := by rw [putG, if_neg hn]
   rw [h, foldG_done, hi]
   by_cases hxk : r.1 = k
   · simp [hxk, delG]
   · simp [hxk, delG]
theorem fput_put (M : List FW) (k : K) (v : Fv) : fputL M k v = putG M k v := by
 have := foldG_put k v M []
 simpa [fputL] using this
theorem takeG_fold (k : K) (v : Fv) (M : List FW) (j : Nat) (h : j < M.length) : (M.take (j + 1)).foldl (stG k v) (false, []) = stG k v ((M.take j).foldl (stG k v) (false, [])) (M.getD j fw0) := by
 rw [List.take_add_one, List.foldl_append]
 simp [List.getD, List.getElem?_eq_getElem h]
end Go.Proofs.Ytmdldbchdnkfcaa
