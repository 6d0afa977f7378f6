/- Fields, declarations and runs that came in. (Written by tools/src/mkfieldopen.py.) -/
import Derived.Test.YtgjfgabagfhnoaaFieldKit
import Derived.Test.YtgjfgabagfhnoaaRowG
import Derived.Deep.Slices
import Derived.Deep.Fields
import Derived.Deep.Strs
import Derived.ChangeSame
import Derived.Lib.SmallJoins
import Derived.OpenShut
namespace Go.Proofs.Ytgjfgabagfhnoaa
open Go.RowKit Go.ChangeShapes Go.WideShapes Go.Deep
set_option linter.unusedVariables false
set_option linter.unusedSimpArgs false
set_option maxRecDepth 10000

theorem i64_wf {z : Int} (h : (Lit.int .i64 z).wf = true) : I64 z := by
  have hb := bounds_i64 h
  unfold I64
  omega
theorem fieldCells6 : Try.prog.cellsOf 23 = 6 := by kernel_rfl
theorem declCells6 : Try.prog.cellsOf 39 = 6 := by kernel_rfl
theorem keyCells3 : Try.prog.cellsOf 37 = 3 := by kernel_rfl
theorem longCells1 : Try.prog.cellsOf 2 = 1 := by kernel_rfl
theorem byteCells1 : Try.prog.cellsOf 5 = 1 := by kernel_rfl
theorem longsCells1 : Try.prog.cellsOf 46 = 1 := by kernel_rfl
theorem bytesCells1 : Try.prog.cellsOf 47 = 1 := by kernel_rfl
theorem runCells8 : Try.prog.cellsOf 49 = 8 := by kernel_rfl
/-- What is known of a field's cells. -/
def FieldIn (w : World) (c : Array Value) : Prop := ∃ f : Fv, Fok f ∧ c = fcs f
/-- Of a declaration's. -/
def DeclC (c : List Value) : Prop := ∃ k0 k1 k2 lo init hi : Int, c = [.int .u8 k0, .int .u8 k1, .int .u8 k2, .int .i64 lo, .int .i64 init, .int .i64 hi] ∧ I64 lo ∧ I64 init ∧ I64 hi
def DeclIn (w : World) (c : Array Value) : Prop := DeclC c.toList
/-- A slice of numbers. -/
abbrev ni (k : IntKind) (x : Int) : List Value := [.int k x]
abbrev NL (k : IntKind) (w : World) (p : Option Addr) (n c : Nat) (L : List Int) : Prop := SlG (ni k) 1 0 w p n c L
section
variable {H : Type} {enc : TypeId × Value → H} {w : World} {base : Nat} {held : Bool}
theorem field_trod {fuel : Nat} {cs : List Value} {d : DataW H × List MemPlace} (h : DataW.trod enc Try.prog w base (fun _ => true) held fuel 23 cs = some d) (hlen : cs.length = 6) : ∃ f : Fv, Fok f ∧ cs = (fcs f).toList := by
  match cs, hlen with
  | [x0, x1, x2, x3, x4, x5], _ =>
    obtain ⟨xs, n, _, _, _, hxl, hg⟩ := DataW.trod_struct Try.underlying23 h
    have h6 : xs.length = 6 := hxl
    have t0 := hg 0 _ rfl
    have t1 := hg 1 _ rfl
    have t2 := hg 2 _ rfl
    have t3 := hg 3 _ rfl
    have t4 := hg 4 _ rfl
    have t5 := hg 5 _ rfl
    rw [List.getElem?_eq_getElem (by omega)] at t0 t1 t2 t3 t4 t5
    have e0 : DataW.trod enc Try.prog w base (fun _ => true) held n 2 [x0] = some (xs[0]'(by omega)) := t0
    have e1 : DataW.trod enc Try.prog w base (fun _ => true) held n 2 [x1] = some (xs[1]'(by omega)) := t1
    have e2 : DataW.trod enc Try.prog w base (fun _ => true) held n 2 [x2] = some (xs[2]'(by omega)) := t2
    have e3 : DataW.trod enc Try.prog w base (fun _ => true) held n 2 [x3] = some (xs[3]'(by omega)) := t3
    have e4 : DataW.trod enc Try.prog w base (fun _ => true) held n 2 [x4] = some (xs[4]'(by omega)) := t4
    have e5 : DataW.trod enc Try.prog w base (fun _ => true) held n 2 [x5] = some (xs[5]'(by omega)) := t5
    obtain ⟨z0, hv0, _, wf0⟩ := DataW.trod_int Try.underlying2 e0
    obtain ⟨z1, hv1, _, wf1⟩ := DataW.trod_int Try.underlying2 e1
    obtain ⟨z2, hv2, _, wf2⟩ := DataW.trod_int Try.underlying2 e2
    obtain ⟨z3, hv3, _, wf3⟩ := DataW.trod_int Try.underlying2 e3
    obtain ⟨z4, hv4, _, wf4⟩ := DataW.trod_int Try.underlying2 e4
    obtain ⟨z5, hv5, _, wf5⟩ := DataW.trod_int Try.underlying2 e5
    simp at hv0 hv1 hv2 hv3 hv4 hv5
    subst hv0 hv1 hv2 hv3 hv4 hv5
    exact ⟨⟨z0, z1, z2, z3, z4, z5⟩, ⟨i64_wf wf0, i64_wf wf1, i64_wf wf2, i64_wf wf3, i64_wf wf4, i64_wf wf5⟩, rfl⟩
theorem keyc_trod {fuel : Nat} {x y z : Value} {d : DataW H × List MemPlace} (h : DataW.trod enc Try.prog w base (fun _ => true) held fuel 37 [x, y, z] = some d) : ∃ a b c : Int, x = .int .u8 a ∧ y = .int .u8 b ∧ z = .int .u8 c := by
  obtain ⟨y0, y1, y2, n, _, _, t0, t1, t2⟩ := trod_struct3 Try.underlying37 h
  simp only [byteCells1, List.drop_zero, List.drop_succ_cons, List.take_succ_cons, List.take_zero] at t0 t1 t2
  obtain ⟨z0, hv0, _, wf0⟩ := DataW.trod_int Try.underlying5 t0
  obtain ⟨z1, hv1, _, wf1⟩ := DataW.trod_int Try.underlying5 t1
  obtain ⟨z2, hv2, _, wf2⟩ := DataW.trod_int Try.underlying5 t2
  simp at hv0 hv1 hv2
  exact ⟨z0, z1, z2, hv0, hv1, hv2⟩
theorem decl_trod {fuel : Nat} {cs : List Value} {d : DataW H × List MemPlace} (h : DataW.trod enc Try.prog w base (fun _ => true) held fuel 39 cs = some d) : DeclC cs := by
  obtain ⟨_, _, _, _, hlen, _, _⟩ := DataW.trod_struct Try.underlying39 h
  rw [declCells6] at hlen
  obtain ⟨y0, y1, y2, y3, n, _, _, t0, t1, t2, t3⟩ := Go.Joins.trod_struct4 Try.underlying39 h
  obtain ⟨v0, v1, v2, v3, v4, v5, rfl⟩ : ∃ v0 v1 v2 v3 v4 v5, cs = [v0, v1, v2, v3, v4, v5] := by
    match cs, hlen with
    | [a, b, c, d, e, f], _ => exact ⟨a, b, c, d, e, f, rfl⟩
  simp only [keyCells3, longCells1, List.drop_zero, List.drop_succ_cons, List.take_succ_cons, List.take_zero] at t0 t1 t2 t3
  obtain ⟨k0, k1, k2, rfl, rfl, rfl⟩ := keyc_trod t0
  obtain ⟨z3, hv3, _, wf3⟩ := DataW.trod_int Try.underlying2 t1
  obtain ⟨z4, hv4, _, wf4⟩ := DataW.trod_int Try.underlying2 t2
  obtain ⟨z5, hv5, _, wf5⟩ := DataW.trod_int Try.underlying2 t3
  simp at hv3 hv4 hv5
  subst hv3 hv4 hv5
  exact ⟨k0, k1, k2, z3, z4, z5, rfl, i64_wf wf3, i64_wf wf4, i64_wf wf5⟩
/-- A slice of numbers that came in. -/
theorem open_longs {fuel : Nat} {a : Option Addr} {len cap : Nat} {x : DataW H × List MemPlace}
    (h : DataW.trod enc Try.prog w base (fun _ => true) held fuel 46 [.slice a len cap] = some x) : ∃ L, NL .i64 w a len cap L ∧ ∀ y ∈ L, I64 y := by
  rcases open_slice Try.underlying46 h with ⟨hcs, _⟩ | ⟨a', l, c, m, n, D', Pl, hcs, hb, hl, hm, hmm, hx, hi⟩
  · simp at hcs
    obtain ⟨rfl, rfl, rfl⟩ := hcs
    exact ⟨[], SlG.empty w, fun y hy => by cases hy⟩
  · simp at hcs
    obtain ⟨rfl, rfl, rfl⟩ := hcs
    rw [if_pos rfl] at hmm
    subst hmm
    have hall : ∀ i, i < len → ∃ y : Int, (I64 y) ∧ ∀ j u, (ni .i64 y)[j]? = some u → w.cell? (a'.add (i * 1 + j)) = some u := by
      intro i hil
      obtain ⟨cs', hc, ht⟩ := hi i (by omega)
      rw [longCells1] at hc
      obtain ⟨_, hcl, hat⟩ := World.cells?_some hc
      obtain ⟨v, rfl⟩ : ∃ v, cs' = [v] := by
        match cs', hcl with
        | [v], _ => exact ⟨v, rfl⟩
      obtain ⟨z, hv, _, wf⟩ := DataW.trod_int Try.underlying2 ht
      simp at hv
      subst hv
      refine ⟨z, i64_wf wf, fun j u hu => ?_⟩
      have hj : j < 1 := (List.getElem?_eq_some_iff.1 hu).1
      have := hat j hj
      rw [← Go.Deep.add_add, this]
      exact hu
    obtain ⟨f, hf⟩ : ∃ f : Nat → Int, ∀ i, i < len → (I64 (f i)) ∧ ∀ j u, (ni .i64 (f i))[j]? = some u → w.cell? (a'.add (i * 1 + j)) = some u :=
      ⟨fun i => if h : i < len then Classical.choose (hall i h) else 0, fun i h => by dsimp only; rw [dif_pos h]; exact Classical.choose_spec (hall i h)⟩
    refine ⟨(List.range len).map f, ⟨by simp, hl, hm, (fun h => by cases h), fun h0 => ?_⟩, fun y hy => ?_⟩
    · have h00 := (hf 0 h0).2 0 _ rfl
      have hsp : a'.spot = none := World.cell?_spot (a := a') (by simpa [Addr.add] using h00)
      obtain ⟨b, off, sp⟩ := a'
      replace hsp : sp = none := hsp
      subst hsp
      rw [Go.WideShapes.add_plain] at h00
      refine ⟨b, off, rfl, World.block_lt_of_cell? _ _ h00, fun j hj i v hv => ?_⟩
      have e : ((List.range len).map f).getD j 0 = f j := by
        rw [List.getD, List.getElem?_map, List.getElem?_range hj]; rfl
      rw [e] at hv
      have := (hf j hj).2 i v hv
      rwa [Go.WideShapes.add_plain, ← Nat.add_assoc] at this
    · obtain ⟨i, hi', rfl⟩ := List.mem_map.1 hy
      exact (hf i (List.mem_range.1 hi')).1
/-- A slice of numbers that came in. -/
theorem open_bytes {fuel : Nat} {a : Option Addr} {len cap : Nat} {x : DataW H × List MemPlace}
    (h : DataW.trod enc Try.prog w base (fun _ => true) held fuel 47 [.slice a len cap] = some x) : ∃ L, NL .u8 w a len cap L ∧ ∀ y ∈ L, 0 ≤ y ∧ y ≤ 255 := by
  rcases open_slice Try.underlying47 h with ⟨hcs, _⟩ | ⟨a', l, c, m, n, D', Pl, hcs, hb, hl, hm, hmm, hx, hi⟩
  · simp at hcs
    obtain ⟨rfl, rfl, rfl⟩ := hcs
    exact ⟨[], SlG.empty w, fun y hy => by cases hy⟩
  · simp at hcs
    obtain ⟨rfl, rfl, rfl⟩ := hcs
    rw [if_pos rfl] at hmm
    subst hmm
    have hall : ∀ i, i < len → ∃ y : Int, (0 ≤ y ∧ y ≤ 255) ∧ ∀ j u, (ni .u8 y)[j]? = some u → w.cell? (a'.add (i * 1 + j)) = some u := by
      intro i hil
      obtain ⟨cs', hc, ht⟩ := hi i (by omega)
      rw [byteCells1] at hc
      obtain ⟨_, hcl, hat⟩ := World.cells?_some hc
      obtain ⟨v, rfl⟩ : ∃ v, cs' = [v] := by
        match cs', hcl with
        | [v], _ => exact ⟨v, rfl⟩
      obtain ⟨z, hv, _, wf⟩ := DataW.trod_int Try.underlying5 ht
      simp at hv
      subst hv
      refine ⟨z, bounds_u8 wf, fun j u hu => ?_⟩
      have hj : j < 1 := (List.getElem?_eq_some_iff.1 hu).1
      have := hat j hj
      rw [← Go.Deep.add_add, this]
      exact hu
    obtain ⟨f, hf⟩ : ∃ f : Nat → Int, ∀ i, i < len → (0 ≤ (f i) ∧ (f i) ≤ 255) ∧ ∀ j u, (ni .u8 (f i))[j]? = some u → w.cell? (a'.add (i * 1 + j)) = some u :=
      ⟨fun i => if h : i < len then Classical.choose (hall i h) else 0, fun i h => by dsimp only; rw [dif_pos h]; exact Classical.choose_spec (hall i h)⟩
    refine ⟨(List.range len).map f, ⟨by simp, hl, hm, (fun h => by cases h), fun h0 => ?_⟩, fun y hy => ?_⟩
    · have h00 := (hf 0 h0).2 0 _ rfl
      have hsp : a'.spot = none := World.cell?_spot (a := a') (by simpa [Addr.add] using h00)
      obtain ⟨b, off, sp⟩ := a'
      replace hsp : sp = none := hsp
      subst hsp
      rw [Go.WideShapes.add_plain] at h00
      refine ⟨b, off, rfl, World.block_lt_of_cell? _ _ h00, fun j hj i v hv => ?_⟩
      have e : ((List.range len).map f).getD j 0 = f j := by
        rw [List.getD, List.getElem?_map, List.getElem?_range hj]; rfl
      rw [e] at hv
      have := (hf j hj).2 i v hv
      rwa [Go.WideShapes.add_plain, ← Nat.add_assoc] at this
    · obtain ⟨i, hi', rfl⟩ := List.mem_map.1 hy
      exact (hf i (List.mem_range.1 hi')).1
end
theorem open_field {H : Type} {enc : TypeId × Value → H} {w : World} {base b0 : Nat} {held : Bool} {r : Reach} {v : Value} {d : DataW H} {p : List MemPlace}
    (hv : Value.okWide Try.prog w r b0 23 v) (h : DataW.Trod enc Try.prog w base (fun _ => true) held 23 v d p) : ∃ c, v = .agg c ∧ FieldIn w c := by
  obtain ⟨c, rfl, hsz⟩ := okWide_struct Try.underlying23 hv
  obtain ⟨fuel, hf⟩ := h
  rw [fieldCells6] at hsz
  obtain ⟨m, hok, hcs⟩ := field_trod hf (by simpa [Value.cells] using hsz)
  exact ⟨c, rfl, m, hok, Array.ext' hcs⟩
theorem open_decl {H : Type} {enc : TypeId × Value → H} {w : World} {base b0 : Nat} {held : Bool} {r : Reach} {v : Value} {d : DataW H} {p : List MemPlace}
    (hv : Value.okWide Try.prog w r b0 39 v) (h : DataW.Trod enc Try.prog w base (fun _ => true) held 39 v d p) : ∃ c, v = .agg c ∧ DeclIn w c := by
  obtain ⟨c, rfl, hsz⟩ := okWide_struct Try.underlying39 hv
  obtain ⟨fuel, hf⟩ := h
  exact ⟨c, rfl, decl_trod hf⟩
/-- Of a run's. -/
def RunIn (w : World) (c : Array Value) : Prop := ∃ (k0 k1 k2 lo init hi : Int) (p : Option Addr) (n m : Nat) (L : List Int) (q : Option Addr) (n2 m2 : Nat) (M : List Int),
  c = #[.int .u8 k0, .int .u8 k1, .int .u8 k2, .int .i64 lo, .int .i64 init, .int .i64 hi, .slice p n m, .slice q n2 m2] ∧ I64 lo ∧ I64 init ∧ I64 hi ∧ NL .i64 w p n m L ∧ (∀ x ∈ L, I64 x) ∧ NL .u8 w q n2 m2 M ∧ (∀ x ∈ M, 0 ≤ x ∧ x ≤ 255)
theorem open_run {H : Type} {enc : TypeId × Value → H} {w : World} {base b0 : Nat} {held : Bool} {r : Reach} {v : Value} {d : DataW H} {p : List MemPlace}
    (hv : Value.okWide Try.prog w r b0 49 v) (h : DataW.Trod enc Try.prog w base (fun _ => true) held 49 v d p) : ∃ c, v = .agg c ∧ RunIn w c := by
  obtain ⟨c, rfl, hsz⟩ := okWide_struct Try.underlying49 hv
  obtain ⟨fuel, hf⟩ := h
  obtain ⟨_, _, _, _, hlen, _, _⟩ := DataW.trod_struct Try.underlying49 hf
  rw [runCells8] at hlen
  obtain ⟨y0, y1, y2, n, _, _, t0, t1, t2⟩ := trod_struct3 Try.underlying49 hf
  obtain ⟨v0, v1, v2, v3, v4, v5, v6, v7, hcs⟩ : ∃ v0 v1 v2 v3 v4 v5 v6 v7, c.toList = [v0, v1, v2, v3, v4, v5, v6, v7] := by
    match h : c.toList, hlen with
    | [a, b, c, d, e, f, g, i], _ => exact ⟨a, b, c, d, e, f, g, i, rfl⟩
  have hcells : (Value.agg c).cells.toList = c.toList := rfl
  rw [hcells, hcs] at t0 t1 t2
  simp only [declCells6, longsCells1, bytesCells1, List.drop_zero, List.drop_succ_cons, List.take_succ_cons, List.take_zero] at t0 t1 t2
  obtain ⟨k0, k1, k2, lo, init, hi, hd, h1, h2, h3⟩ := decl_trod t0
  simp only [List.cons.injEq, and_true] at hd
  obtain ⟨rfl, rfl, rfl, rfl, rfl, rfl⟩ := hd
  obtain ⟨a, len, cap, rfl⟩ : ∃ a len cap, v6 = .slice a len cap := by
    rcases open_slice Try.underlying46 t1 with ⟨hcs, _⟩ | ⟨a', l, c', m, n', D', Pl, hcs, _⟩
    · exact ⟨none, 0, 0, by simpa using hcs⟩
    · exact ⟨some a', l, c', by simpa using hcs⟩
  obtain ⟨b, len2, cap2, rfl⟩ : ∃ a len cap, v7 = .slice a len cap := by
    rcases open_slice Try.underlying47 t2 with ⟨hcs, _⟩ | ⟨a', l, c', m, n', D', Pl, hcs, _⟩
    · exact ⟨none, 0, 0, by simpa using hcs⟩
    · exact ⟨some a', l, c', by simpa using hcs⟩
  obtain ⟨L, hL, hok⟩ := open_longs t1
  obtain ⟨M, hM, hok2⟩ := open_bytes t2
  exact ⟨c, rfl, k0, k1, k2, lo, init, hi, a, len, cap, L, b, len2, cap2, M, Array.ext' hcs, h1, h2, h3, hL, hok, hM, hok2⟩
end Go.Proofs.Ytgjfgabagfhnoaa
