/- Configurations, small numbers and pairs that came in. -/
import Derived.Test.YthkeefdapnkgeaaConfKit
import Derived.Test.YthkeefdapnkgeaaKeyOpen
import Derived.Deep.Slices
import Derived.Deep.Fields
import Derived.Lib.SmallJoins
namespace Go.Proofs.Ythkeefdapnkgeaa
open Go.RowKit Go.ChangeShapes Go.WideShapes Go.Deep
set_option linter.unusedVariables false
set_option linter.unusedSimpArgs false

theorem declCells6 : Try.prog.cellsOf 39 = 6 := by kernel_rfl
theorem keyCells3 : Try.prog.cellsOf 37 = 3 := by kernel_rfl
theorem longCells1 : Try.prog.cellsOf 2 = 1 := by kernel_rfl
theorem byteCells1' : Try.prog.cellsOf 5 = 1 := by kernel_rfl
theorem fieldsCells1 : Try.prog.cellsOf 26 = 1 := by kernel_rfl
theorem confCells26 : Try.prog.cellsOf 30 = 26 := by kernel_rfl
section
variable {H : Type} {enc : TypeId × Value → H} {w : World} {base : Nat} {spare : Nat → Bool} {held : Bool}
theorem keyc_trod {fuel : Nat} {x y z : Value} {d : DataW H × List MemPlace} (h : DataW.trod enc Try.prog w base spare held fuel 37 [x, y, z] = some d) : ∃ k : K, Kok k ∧ x = .int .u8 k.1 ∧ y = .int .u8 k.2.1 ∧ z = .int .u8 k.2.2 := by
  obtain ⟨y0, y1, y2, n, _, _, t0, t1, t2⟩ := trod_struct3 Try.underlying37 h
  simp only [byteCells1', List.drop_zero, List.drop_succ_cons, List.take_succ_cons, List.take_zero] at t0 t1 t2
  obtain ⟨z0, hv0, _, wf0⟩ := DataW.trod_int Try.underlying5 t0
  obtain ⟨z1, hv1, _, wf1⟩ := DataW.trod_int Try.underlying5 t1
  obtain ⟨z2, hv2, _, wf2⟩ := DataW.trod_int Try.underlying5 t2
  simp at hv0 hv1 hv2
  exact ⟨(z0, z1, z2), ⟨bounds_u8 wf0, bounds_u8 wf1, bounds_u8 wf2⟩, hv0, hv1, hv2⟩
theorem decl_trod {fuel : Nat} {cs : List Value} {d : DataW H × List MemPlace} (h : DataW.trod enc Try.prog w base spare held fuel 39 cs = some d) : ∃ a : D, Dok a ∧ cs = dc a := by
  obtain ⟨_, _, _, _, hlen, _, _⟩ := DataW.trod_struct Try.underlying39 h
  rw [declCells6] at hlen
  obtain ⟨y0, y1, y2, y3, n, _, _, t0, t1, t2, t3⟩ := Go.Joins.trod_struct4 Try.underlying39 h
  obtain ⟨v0, v1, v2, v3, v4, v5, rfl⟩ : ∃ v0 v1 v2 v3 v4 v5, cs = [v0, v1, v2, v3, v4, v5] := by
    match cs, hlen with
    | [a, b, c, d, e, f], _ => exact ⟨a, b, c, d, e, f, rfl⟩
  simp only [keyCells3, longCells1, List.drop_zero, List.drop_succ_cons, List.take_succ_cons, List.take_zero] at t0 t1 t2 t3
  obtain ⟨k, hk, rfl, rfl, rfl⟩ := keyc_trod t0
  obtain ⟨z3, hv3, _, wf3⟩ := DataW.trod_int Try.underlying2 t1
  obtain ⟨z4, hv4, _, wf4⟩ := DataW.trod_int Try.underlying2 t2
  obtain ⟨z5, hv5, _, wf5⟩ := DataW.trod_int Try.underlying2 t3
  simp at hv3 hv4 hv5
  subst hv3 hv4 hv5
  exact ⟨(k, z3, z4, z5), ⟨hk, wf3, wf4, wf5⟩, rfl⟩
/-- A slice of declarations that came in. -/
theorem open_decls {fuel : Nat} {a : Option Addr} {len cap : Nat} {x : DataW H × List MemPlace}
    (h : DataW.trod enc Try.prog w base (fun _ => true) held fuel 26 [.slice a len cap] = some x) : ∃ L, DL w a len cap L ∧ ∀ y ∈ L, Dok y := by
  rcases open_slice Try.underlying26 h with ⟨hcs, _⟩ | ⟨a', l, c, m, n, D', Pl, hcs, hb, hl, hm, hmm, hx, hi⟩
  · simp at hcs
    obtain ⟨rfl, rfl, rfl⟩ := hcs
    exact ⟨[], SlG.empty w, fun y hy => by cases hy⟩
  · simp at hcs
    obtain ⟨rfl, rfl, rfl⟩ := hcs
    rw [if_pos rfl] at hmm
    subst hmm
    have hall : ∀ i, i < len → ∃ y : D, Dok y ∧ ∀ j u, (dc y)[j]? = some u → w.cell? (a'.add (i * 6 + j)) = some u := by
      intro i hil
      obtain ⟨cs', hc, ht⟩ := hi i (by omega)
      rw [declCells6] at hc
      obtain ⟨y, hy, rfl⟩ := decl_trod ht
      obtain ⟨_, hcl, hat⟩ := World.cells?_some hc
      refine ⟨y, hy, fun j u hu => ?_⟩
      have hj : j < 6 := (List.getElem?_eq_some_iff.1 hu).1
      have := hat j hj
      rw [← Go.Deep.add_add, this]
      exact hu
    obtain ⟨f, hf⟩ : ∃ f : Nat → D, ∀ i, i < len → Dok (f i) ∧ ∀ j u, (dc (f i))[j]? = some u → w.cell? (a'.add (i * 6 + j)) = some u :=
      ⟨fun i => if h : i < len then Classical.choose (hall i h) else d0, fun i h => by dsimp only; rw [dif_pos h]; exact Classical.choose_spec (hall i h)⟩
    refine ⟨(List.range len).map f, ⟨by simp, hl, hm, (fun h => by cases h), fun h0 => ?_⟩, fun y hy => ?_⟩
    · have h00 := (hf 0 h0).2 0 _ rfl
      have hsp : a'.spot = none := World.cell?_spot (a := a') (by simpa [Addr.add] using h00)
      obtain ⟨b, off, sp⟩ := a'
      replace hsp : sp = none := hsp
      subst hsp
      rw [Go.WideShapes.add_plain] at h00
      refine ⟨b, off, rfl, World.block_lt_of_cell? _ _ h00, fun j hj i v hv => ?_⟩
      have e : ((List.range len).map f).getD j d0 = f j := by
        rw [List.getD, List.getElem?_map, List.getElem?_range hj]; rfl
      rw [e] at hv
      have := (hf j hj).2 i v hv
      rwa [Go.WideShapes.add_plain, ← Nat.add_assoc] at this
    · obtain ⟨i, hi', rfl⟩ := List.mem_map.1 hy
      exact (hf i (List.mem_range.1 hi')).1
end
/-- What is known of a configuration's cells: among them its fields. -/
def ConfIn (w : World) (c : Array Value) : Prop := c.size = 26 ∧ ∃ p n cap M, c[2]? = some (.slice p n cap) ∧ DL w p n cap M ∧ ∀ y ∈ M, Dok y
set_option maxRecDepth 100000 in
theorem open_conf {H : Type} {enc : TypeId × Value → H} {w : World} {base b0 : Nat} {held : Bool} {r : Reach} {v : Value} {d : DataW H} {p : List MemPlace}
    (hv : Value.okWide Try.prog w r b0 30 v) (h : DataW.Trod enc Try.prog w base (fun _ => true) held 30 v d p) : ∃ c, v = .agg c ∧ ConfIn w c := by
  obtain ⟨c, rfl, hsz⟩ := okWide_struct Try.underlying30 hv
  rw [confCells26] at hsz
  obtain ⟨fuel, hf⟩ := h
  obtain ⟨xs, n, _, _, _, hlen, hg⟩ := DataW.trod_struct Try.underlying30 hf
  have h2 : DataW.trod enc Try.prog w base (fun _ => true) held n 26 (((Value.agg c).cells.toList.drop 2).take (Try.prog.cellsOf 26)) = xs[2]? := hg 2 _ rfl
  have h11 : xs.length = 11 := hlen
  rw [List.getElem?_eq_getElem (by omega)] at h2
  rw [fieldsCells1] at h2
  have hc2 : c[2]? = some (c[2]'(by omega)) := Array.getElem?_eq_getElem (by omega)
  have hone : (((Value.agg c).cells.toList).drop 2).take 1 = [c[2]'(by omega)] := by
    show ((c.toList).drop 2).take 1 = _
    rw [List.drop_eq_getElem_cons (by simpa using (by omega : 2 < c.size))]
    simp
  rw [hone] at h2
  obtain ⟨a, len, cap, hs⟩ : ∃ a len cap, c[2]'(by omega) = .slice a len cap := by
    rcases open_slice Try.underlying26 h2 with ⟨hcs, _⟩ | ⟨a', l, c', m, n', D', Pl, hcs, _⟩
    · exact ⟨none, 0, 0, by simpa using hcs⟩
    · exact ⟨some a', l, c', by simpa using hcs⟩
  rw [hs] at h2 hc2
  obtain ⟨M, hM, hok⟩ := open_decls h2
  exact ⟨c, rfl, hsz, a, len, cap, M, hc2, hM, hok⟩
/-- Two numbers. -/
def PairIn (w : World) (c : Array Value) : Prop := ∃ x y : Int, c = #[.int .i64 x, .int .i64 y] ∧ (Lit.int .i64 x).wf = true ∧ (Lit.int .i64 y).wf = true
theorem pairCells2 : Try.prog.cellsOf 25 = 2 := by kernel_rfl
theorem open_pair {H : Type} {enc : TypeId × Value → H} {w : World} {base b0 : Nat} {spare : Nat → Bool} {held : Bool} {r : Reach} {v : Value} {d : DataW H} {p : List MemPlace}
    (hv : Value.okWide Try.prog w r b0 25 v) (h : DataW.Trod enc Try.prog w base spare held 25 v d p) : ∃ c, v = .agg c ∧ PairIn w c := by
  simp only [Value.okWide, Try.underlying25] at hv
  obtain ⟨c, rfl, hsz, _⟩ := hv
  rw [pairCells2] at hsz
  obtain ⟨fuel, hf⟩ := h
  obtain ⟨xs, n, _, _, _, hlen, hg⟩ := DataW.trod_array Try.underlying25 hf
  obtain ⟨l⟩ := c
  match l, hsz with
  | [c0, c1], _ =>
    have g0 := hg 0 (by omega)
    have g1 := hg 1 (by omega)
    rw [longCells1, List.getElem?_eq_getElem (by omega)] at g0 g1
    simp only [Value.cells, Nat.zero_mul, Nat.one_mul, List.drop_zero, List.drop_succ_cons, List.take_succ_cons, List.take_zero] at g0 g1
    obtain ⟨z0, hv0, _, wf0⟩ := DataW.trod_int Try.underlying2 g0
    obtain ⟨z1, hv1, _, wf1⟩ := DataW.trod_int Try.underlying2 g1
    simp at hv0 hv1
    subst hv0 hv1
    exact ⟨_, rfl, z0, z1, rfl, wf0, wf1⟩
/-- A whole configuration out of its block, whatever its cells. -/
theorem wpList_load_ca {ops : Array Oper} {rest : List Oper} {a : Act} {w : World} {Q : Exit → Act → World → Prop} {dst : Option Tmp} {x : Operand} {ty : TypeId} {pos : String} {after : Array Edge} {B : Nat} {c : Array Value} (hC : w.heap[B]? = some (.cells c 30 (0, 0))) (hs : c.size = 26) (hx : a.eval x = .pointer (some ⟨B, 0, none⟩))
    (h : wpList Try.prog ops Q rest (a.put dst (.agg c)) w) : wpList Try.prog ops Q (Oper.mk dst (.load 30 x) ty pos after none :: rest) a w :=
  wpList_load_row rfl 30 x rfl B hx 30 c (0, 0) _ hC Try.underlying30 rfl (by rw [hs]; kernel_rfl) h
end Go.Proofs.Ythkeefdapnkgeaa
