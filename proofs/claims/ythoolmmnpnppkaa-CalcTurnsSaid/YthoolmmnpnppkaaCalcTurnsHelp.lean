/- What CalcTurns leans on: a row turned round and cut has the same sum; a row that the call owns is a row. -/
import Derived.Test.YthoolmmnpnppkaaCalcRows
import Derived.Test.YthoolmmnpnppkaaCalcWorks
import Derived.Deep.AppendLies
import Derived.Deep.RegionLaw
namespace Go.Proofs.Ythoolmmnpnppkaa
open Go.RowKit
set_option linter.unusedVariables false

theorem total_reverse (xs : List Int) : total xs.reverse = total xs := by
  induction xs with
  | nil => rfl
  | cons x r ih => rw [List.reverse_cons, total_append, ih]; simp [total]; omega
theorem total_cut (xs : List Int) (q : Nat) : total (xs.drop q ++ xs.take q) = total xs := by
  have h : total (xs.take q ++ xs.drop q) = total xs := by rw [List.take_append_drop]
  rw [total_append] at *; omega
/-- What has been gathered, from the end on, once j are left. -/
def gath (xs : List Int) (j : Nat) : List Int := (xs.drop j).reverse
theorem gath_start (xs : List Int) (n : Nat) (h : n = xs.length) : gath xs n = [] := by subst h; simp [gath]
theorem gath_end (xs : List Int) : gath xs 0 = xs.reverse := by simp [gath]
theorem gath_step (xs : List Int) (t : Nat) (h : t < xs.length) : gath xs t = gath xs (t + 1) ++ [xs.getD t 0] := by
  unfold gath
  rw [List.drop_eq_getElem_cons h, List.reverse_cons, List.getD, List.getElem?_eq_getElem h]; rfl
theorem gath_len (xs : List Int) (j : Nat) : (gath xs j).length = xs.length - j := by simp [gath]
theorem row_of_owns {w : World} {base g n cap : Nat} {ys : List Int} (h : w.ownsRow base 2 1 (.slice (some ⟨g, 0, none⟩) n cap) n (ys.map (Value.int .i64))) (hn : n = ys.length) (hg : g < w.heap.size)
    (hr : ∀ x ∈ ys, -9223372036854775808 ≤ x ∧ x ≤ 9223372036854775807) : Row w (some ⟨g, 0, none⟩) n ys := by
  refine ⟨hn, hr, Or.inr ⟨g, 0, rfl, hg, fun j hj => ?_⟩⟩
  have := h.cellAt j (by omega)
  rw [Nat.zero_add, this, List.getElem?_map, List.getElem?_eq_getElem hj, List.getD, List.getElem?_eq_getElem hj]
  rfl
/-- append onto a row of the call's own, as one step of a region that draws its order; what is appended may be empty. -/
theorem step_append_own {P : Program} {ops : Array Oper} {o : Oper} {a : Act} {w : World} {K : Act → World → Prop} {Q : Exit → Act → World → Prop} {E : Prop} (hgd : o.guard = none) (s x : Operand) (t : TypeId)
    (ho : o.op = .call { callee := .builtin .append, args := #[s, x], argTypes := #[t, t] })
    (base : Nat) (e : TypeId) (i : TypeInfo) (z : Value) (size bytes : Nat) (ht : P.underlying t = some (.slice e)) (hi : P.info? e = some i) (hz : i.zero = some z)
    (hsize : i.size = size) (hby : i.bytes = bytes) (hzs : z.cells.size = size) (hsz : 0 < size)
    (v : Value) (n : Nat) (xs : List Value) (hs : a.eval s = v) (hown : w.ownsRow base e size v n xs)
    (ad : Addr) (m c : Nat) (news : List Value) (hx : a.eval x = .slice (some ad) m c) (hl : news.length = m * size) (hnews : ∀ j u, news[j]? = some u → w.cell? (ad.add j) = some u) (h1 : ∀ u ∈ news, u.oneCell' = true)
    (h63 : n + m ≤ maxLen) (hbytes : (n + m) * bytes ≤ 140737488355328) (hbase : base ≤ w.heap.size)
    (h : ∀ v' w', w'.ownsRow base e size v' (n + m) (xs ++ news) → w.grownBy w' v.ownBlock → (v' = .slice none 0 0 ↔ v = .slice none 0 0 ∧ m = 0) → K (a.put o.dst v') w') :
    if Region.wanted o (yielded ops a.tmps) = true then Oper.wp P o a w K Q else E := by
  have hw : Region.wanted o (yielded ops a.tmps) = true := by simp [Region.wanted, hgd]
  rw [if_pos hw]
  exact wp_append_own w s x t ho base e i z size bytes ht hi hz hsize hby hzs hsz v n xs hs hown ad m c news hx hl hnews h1 h63 hbytes hbase h
theorem own_start (wr : World) (e : TypeId) : (wr.alloc (.cells #[] e)).drew.ownsRow wr.heap.size e 1 (.slice (some ⟨wr.heap.size, 0, none⟩) 0 0) 0 [] :=
  (World.ownsRow_lit wr #[] 0 (Nat.le_refl _) (Nat.zero_le _) rfl).drew
theorem row_cells {W wr : World} {base g n cp : Nat} {e : TypeId} {ys : List Int} (h : wr.ownsRow base e 1 (.slice (some ⟨g, 0, none⟩) n cp) n (ys.map (Value.int .i64)))
    (hW : ∀ j, W.cell? ⟨g, j, none⟩ = wr.cell? ⟨g, j, none⟩) (a : Nat) (l : List Int) (hl : ∀ j, j < l.length → a + j < n ∧ l[j]? = ys[a + j]?) :
    ∀ j u, (l.map (Value.int .i64))[j]? = some u → W.cell? ((⟨g, a, none⟩ : Addr).add j) = some u := by
  intro j u hu
  have hj : j < l.length := by
    rcases Nat.lt_or_ge j l.length with h | h
    · exact h
    · rw [List.getElem?_eq_none (by simpa using h)] at hu; cases hu
  rw [Go.WideShapes.add_plain, hW, h.cellAt (a + j) (by have := (hl j hj).1; omega), List.getElem?_map, ← (hl j hj).2, ← List.getElem?_map]
  exact hu
theorem ints_one (l : List Int) : ∀ u ∈ l.map (Value.int .i64), u.oneCell' = true := by
  intro u hu
  obtain ⟨x, _, rfl⟩ := List.mem_map.1 hu
  rfl
theorem Try.info : (Try.prog.info? 2).map (fun i => (i.zero, i.size, i.bytes)) = some (some (.int .i64 0), 1, 8) := by kernel_rfl
end Go.Proofs.Ythoolmmnpnppkaa
