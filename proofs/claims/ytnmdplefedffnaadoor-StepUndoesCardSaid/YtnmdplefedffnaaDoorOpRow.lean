/- Additions in memory; those that came in. -/
import Derived.Test.YtnmdplefedffnaaDoorOpMath
import Derived.Test.YtnmdplefedffnaaDoorRowG
import Derived.Test.YtnmdplefedffnaaDoorKeyQuiet
import Derived.Test.YtnmdplefedffnaaDoorKeyMap
import Derived.Test.YtnmdplefedffnaaDoorAppend
import Derived.Test.YtnmdplefedffnaaDoorCalcRows
import Derived.Deep.Slices
import Derived.Deep.Fields
import Derived.Deep.Fields23
import Derived.ChangeSame
namespace Go.Proofs.YtnmdplefedffnaaDoor
open Go.RowKit Go.ChangeShapes Go.WideShapes Go.Deep
set_option linter.unusedVariables false
set_option maxRecDepth 10000

/-- An addition's cells. -/
def oc (o : O) : List Value := [.int .u8 o.1.1, .int .u8 o.1.2.1, .int .u8 o.1.2.2, .int .i64 o.2]
theorem oc_len (o : O) : (oc o).length = 4 := rfl
theorem oc_one (o : O) : ∀ u ∈ oc o, u.oneCell' = true := by
  intro u hu
  simp only [oc, List.mem_cons, List.not_mem_nil, or_false] at hu
  rcases hu with rfl | rfl | rfl | rfl <;> rfl
abbrev OL (w : World) (p : Option Addr) (n c : Nat) (L : List O) : Prop := SlG oc 4 o0 w p n c L
abbrev FillO (W wr : World) (v : Value) (L : List O) (N : Nat) : Prop := FillG oc 4 39 W wr v L N
abbrev GivesO (W : World) (L : List O) (e : Ending) (w' : World) : Prop := GivesG oc 4 o0 W L e w'
theorem info_op : (Tryd.prog.info? 39).map (fun i => (i.zero, i.size, i.bytes)) = some (some (.agg #[.int .u8 0, .int .u8 0, .int .u8 0, .int .i64 0]), 4, 16) := by kernel_rfl
theorem info_int : (Tryd.prog.info? 2).map (fun i => (i.zero, i.size, i.bytes)) = some (some (.int .i64 0), 1, 8) := by kernel_rfl
theorem op_news (w : World) (x : O) : ∀ i u, (oc x)[i]? = some u → (w.alloc (.cells #[.int .u8 x.1.1, .int .u8 x.1.2.1, .int .u8 x.1.2.2, .int .i64 x.2] 39)).cell? ⟨w.heap.size, i, none⟩ = some u :=
  fun i u hu => block_cell (alloc_block w _) (by simpa [oc] using hu)
theorem op_cells {w : World} {p : Option Addr} {n c : Nat} {L : List O} (h : OL w p n c L) {j : Nat} (hj : j < n) : ∃ b off, p = some ⟨b, off, none⟩ ∧ b < w.heap.size ∧ w.cell? ⟨b, off + j * 4, none⟩ = some (.int .u8 (L.getD j o0).1.1) ∧ w.cell? ⟨b, off + j * 4 + 1, none⟩ = some (.int .u8 (L.getD j o0).1.2.1) ∧ w.cell? ⟨b, off + j * 4 + 2, none⟩ = some (.int .u8 (L.getD j o0).1.2.2) ∧ w.cell? ⟨b, off + j * 4 + 3, none⟩ = some (.int .i64 (L.getD j o0).2) := by
  obtain ⟨b, off, rfl, hb, hc⟩ := h.cell (by omega)
  exact ⟨b, off, rfl, hb, hc j hj 0 _ rfl, hc j hj 1 _ rfl, hc j hj 2 _ rfl, hc j hj 3 _ rfl⟩
theorem ok_at {L : List O} (h : ∀ o ∈ L, Ook o) {j : Nat} (hj : j < L.length) : Ook (L.getD j o0) := by
  rw [List.getD, List.getElem?_eq_getElem hj]
  exact h _ (List.getElem_mem _)
/-- append of one addition onto a row of additions. -/
theorem wpList_append_o {w : World} {ops : Array Oper} {rest : List Oper} {o : Oper} {a : Act} {Q : Exit → Act → World → Prop} (hgd : o.guard = none) (s x : Operand)
    (ho : o.op = .call { callee := .builtin .append, args := #[s, x], argTypes := #[29, 29] })
    (base : Nat) (v : Value) (n : Nat) (L : List O) (hs : a.eval s = v) (hr : w.ownsRow base 39 4 v n (flatG oc L)) (hn : n ≤ 1000000) (e : O) (B : Nat)
    (hx : a.eval x = .slice (some ⟨B, 0, none⟩) 1 1) (hc : ∀ i u, (oc e)[i]? = some u → w.cell? ⟨B, i, none⟩ = some u) (hbase : base ≤ w.heap.size)
    (h : ∀ v' w', w'.ownsRow base 39 4 v' (n + 1) (flatG oc (L ++ [e])) → w.grownBy w' v.ownBlock → wpList Tryd.prog ops Q rest (a.put o.dst v') w') : wpList Tryd.prog ops Q (o :: rest) a w :=
  wpList_append_g oc_len oc_one (by decide) hgd s x _ _ ho Tryd.underlying29 _ 16 info_op rfl (by omega) base v n L hs hr hn e B hx hc hbase h
/-- Numbers in memory. -/
def ic (x : Int) : List Value := [.int .i64 x]
theorem ic_len (x : Int) : (ic x).length = 1 := rfl
theorem ic_one (x : Int) : ∀ u ∈ ic x, u.oneCell' = true := by
  intro u hu
  simp only [ic, List.mem_cons, List.not_mem_nil, or_false] at hu
  rw [hu]; rfl
abbrev IL (w : World) (p : Option Addr) (n c : Nat) (L : List Int) : Prop := SlG ic 1 0 w p n c L
abbrev FillI (W wr : World) (v : Value) (L : List Int) (N : Nat) : Prop := FillG ic 1 2 W wr v L N
abbrev GivesI (W : World) (L : List Int) (e : Ending) (w' : World) : Prop := GivesG ic 1 0 W L e w'
theorem int_news (w : World) (x : Int) : ∀ i u, (ic x)[i]? = some u → (w.alloc (.cells #[.int .i64 x] 2)).cell? ⟨w.heap.size, i, none⟩ = some u :=
  fun i u hu => block_cell (alloc_block w _) (by simpa [ic] using hu)
theorem wpList_append_i {w : World} {ops : Array Oper} {rest : List Oper} {o : Oper} {a : Act} {Q : Exit → Act → World → Prop} (hgd : o.guard = none) (s x : Operand)
    (ho : o.op = .call { callee := .builtin .append, args := #[s, x], argTypes := #[58, 58] })
    (base : Nat) (v : Value) (n : Nat) (L : List Int) (hs : a.eval s = v) (hr : w.ownsRow base 2 1 v n (flatG ic L)) (hn : n ≤ 1000000) (e : Int) (B : Nat)
    (hx : a.eval x = .slice (some ⟨B, 0, none⟩) 1 1) (hc : ∀ i u, (ic e)[i]? = some u → w.cell? ⟨B, i, none⟩ = some u) (hbase : base ≤ w.heap.size)
    (h : ∀ v' w', w'.ownsRow base 2 1 v' (n + 1) (flatG ic (L ++ [e])) → w.grownBy w' v.ownBlock → wpList Tryd.prog ops Q rest (a.put o.dst v') w') : wpList Tryd.prog ops Q (o :: rest) a w :=
  wpList_append_g ic_len ic_one (by decide) hgd s x _ _ ho Tryd.underlying58 _ 8 info_int rfl (by omega) base v n L hs hr hn e B hx hc hbase h
/-- Numbers, as both sums want them. -/
theorem IL.row {w : World} {p : Option Addr} {n c : Nat} {xs : List Int} (h : IL w p n c xs) (hr : ∀ x ∈ xs, In64 x) : Row w p n xs := by
  refine ⟨h.len.symm, hr, ?_⟩
  by_cases h0 : n = 0
  · exact .inl h0
  · obtain ⟨b, off, rfl, hb, hc⟩ := h.cell (by omega)
    refine .inr ⟨b, off, rfl, hb, fun j hj => ?_⟩
    have := hc j (by rw [← h.len]; exact hj) 0 _ rfl
    simpa using this

theorem opCells : Tryd.prog.cellsOf 39 = 4 := by kernel_rfl
theorem intCells : Tryd.prog.cellsOf 2 = 1 := by kernel_rfl
section
variable {H : Type} {enc : TypeId × Value → H} {w : World} {base : Nat} {spare : Nat → Bool} {held : Bool}
theorem key_trod {fuel : Nat} {x y z : Value} {d : DataW H × List MemPlace} (h : DataW.trod enc Tryd.prog w base spare held fuel 37 [x, y, z] = some d) : ∃ k : K, Kok k ∧ x = .int .u8 k.1 ∧ y = .int .u8 k.2.1 ∧ z = .int .u8 k.2.2 := by
  obtain ⟨y0, y1, y2, n, _, _, t0, t1, t2⟩ := trod_struct3 Tryd.underlying37 h
  simp only [byteCells, List.drop_zero, List.drop_succ_cons, List.take_succ_cons, List.take_zero] at t0 t1 t2
  obtain ⟨z0, hv0, _, wf0⟩ := DataW.trod_int Tryd.underlying5 t0
  obtain ⟨z1, hv1, _, wf1⟩ := DataW.trod_int Tryd.underlying5 t1
  obtain ⟨z2, hv2, _, wf2⟩ := DataW.trod_int Tryd.underlying5 t2
  simp at hv0 hv1 hv2
  exact ⟨(z0, z1, z2), ⟨bounds_u8 wf0, bounds_u8 wf1, bounds_u8 wf2⟩, hv0, hv1, hv2⟩
theorem op_trod {fuel : Nat} {cs : List Value} {d : DataW H × List MemPlace} (h : DataW.trod enc Tryd.prog w base spare held fuel 39 cs = some d) : ∃ o : O, Ook o ∧ cs = oc o := by
  obtain ⟨_, _, _, _, hlen, _, _⟩ := DataW.trod_struct Tryd.underlying39 h
  rw [opCells] at hlen
  obtain ⟨y0, y1, n, _, _, t0, t1⟩ := trod_struct2 Tryd.underlying39 h
  obtain ⟨v0, v1, v2, v3, rfl⟩ : ∃ v0 v1 v2 v3, cs = [v0, v1, v2, v3] := by
    match cs, hlen with
    | [a, b, c, d], _ => exact ⟨a, b, c, d, rfl⟩
  simp only [keyCells, intCells, List.drop_zero, List.drop_succ_cons, List.take_succ_cons, List.take_zero] at t0 t1
  obtain ⟨k, hk, rfl, rfl, rfl⟩ := key_trod t0
  obtain ⟨z3, hv3, _, wf3⟩ := DataW.trod_int Tryd.underlying2 t1
  simp at hv3
  subst hv3
  exact ⟨(k, z3), ⟨hk, bounds_i64 wf3⟩, rfl⟩
/-- A slice of additions that came in. -/
theorem open_ops {fuel : Nat} {a : Option Addr} {len cap : Nat} {x : DataW H × List MemPlace}
    (h : DataW.trod enc Tryd.prog w base (fun _ => true) held fuel 29 [.slice a len cap] = some x) : ∃ L, OL w a len cap L ∧ ∀ y ∈ L, Ook y := by
  rcases open_slice Tryd.underlying29 h with ⟨hcs, _⟩ | ⟨a', l, c, m, n, D, Pl, hcs, hb, hl, hm, hmm, hx, hi⟩
  · simp at hcs
    obtain ⟨rfl, rfl, rfl⟩ := hcs
    exact ⟨[], SlG.empty w, fun y hy => by cases hy⟩
  · simp at hcs
    obtain ⟨rfl, rfl, rfl⟩ := hcs
    rw [if_pos rfl] at hmm
    subst hmm
    have hall : ∀ i, i < len → ∃ y : O, Ook y ∧ ∀ j u, (oc y)[j]? = some u → w.cell? (a'.add (i * 4 + j)) = some u := by
      intro i hil
      obtain ⟨cs', hc, ht⟩ := hi i (by omega)
      rw [opCells] at hc
      obtain ⟨y, hy, rfl⟩ := op_trod ht
      obtain ⟨_, hcl, hat⟩ := World.cells?_some hc
      refine ⟨y, hy, fun j u hu => ?_⟩
      have hj : j < 4 := (List.getElem?_eq_some_iff.1 hu).1
      have := hat j hj
      rw [← Go.Deep.add_add, this]
      exact hu
    obtain ⟨f, hf⟩ : ∃ f : Nat → O, ∀ i, i < len → Ook (f i) ∧ ∀ j u, (oc (f i))[j]? = some u → w.cell? (a'.add (i * 4 + j)) = some u :=
      ⟨fun i => if h : i < len then Classical.choose (hall i h) else o0, fun i h => by dsimp only; rw [dif_pos h]; exact Classical.choose_spec (hall i h)⟩
    refine ⟨(List.range len).map f, ⟨by simp, hl, hm, (fun h => by cases h), fun h0 => ?_⟩, fun y hy => ?_⟩
    · have h00 := (hf 0 h0).2 0 _ rfl
      have hsp : a'.spot = none := World.cell?_spot (a := a') (by simpa [Addr.add] using h00)
      obtain ⟨b, off, sp⟩ := a'
      replace hsp : sp = none := hsp
      subst hsp
      rw [Go.WideShapes.add_plain] at h00
      refine ⟨b, off, rfl, World.block_lt_of_cell? _ _ h00, fun j hj i v hv => ?_⟩
      have e : ((List.range len).map f).getD j o0 = f j := by
        rw [List.getD, List.getElem?_map, List.getElem?_range hj]; rfl
      rw [e] at hv
      have := (hf j hj).2 i v hv
      rwa [Go.WideShapes.add_plain, ← Nat.add_assoc] at this
    · obtain ⟨i, hi', rfl⟩ := List.mem_map.1 hy
      exact (hf i (List.mem_range.1 hi')).1
end
end Go.Proofs.YtnmdplefedffnaaDoor
