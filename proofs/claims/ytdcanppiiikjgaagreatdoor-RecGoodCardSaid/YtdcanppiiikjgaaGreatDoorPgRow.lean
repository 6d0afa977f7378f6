/- Takes in memory; programs that came in. -/
import Derived.Test.YtdcanppiiikjgaaGreatDoorGrProga
import Derived.Test.YtdcanppiiikjgaaGreatDoorGrStep
namespace Go.Proofs.YtdcanppiiikjgaaGreatDoor
open Go.RowKit Go.ChangeShapes Go.WideShapes Go.Deep
set_option linter.unusedVariables false
set_option maxRecDepth 10000

/-- A take's cells. -/
def tkc (x : Tk) : List Value := [.int .u32 x.1, .int .u8 x.2.1, .int .u8 x.2.2.1, .int .i64 x.2.2.2]
theorem tkc_len (x : Tk) : (tkc x).length = 4 := rfl
theorem tkc_one (x : Tk) : ∀ u ∈ tkc x, u.oneCell' = true := by
  intro u hu
  simp only [tkc, List.mem_cons, List.not_mem_nil, or_false] at hu
  rcases hu with rfl | rfl | rfl | rfl <;> rfl
theorem lc_one (x : Ln) : ∀ u ∈ lc x, u.oneCell' = true := by
  intro u hu
  simp only [lc, List.mem_cons, List.not_mem_nil, or_false] at hu
  rcases hu with rfl | rfl <;> rfl
abbrev TKL (w : World) (p : Option Addr) (n c : Nat) (T : List Tk) : Prop := SlG tkc 4 tk0 w p n c T
theorem take_cells {w : World} {p : Option Addr} {n c : Nat} {T : List Tk} (h : TKL w p n c T) {j : Nat} (hj : j < n) : ∃ b off, p = some ⟨b, off, none⟩ ∧ b < w.heap.size ∧ w.cell? ⟨b, off + j * 4, none⟩ = some (.int .u32 (T.getD j tk0).1) ∧ w.cell? ⟨b, off + j * 4 + 1, none⟩ = some (.int .u8 (T.getD j tk0).2.1) ∧ w.cell? ⟨b, off + j * 4 + 2, none⟩ = some (.int .u8 (T.getD j tk0).2.2.1) ∧ w.cell? ⟨b, off + j * 4 + 3, none⟩ = some (.int .i64 (T.getD j tk0).2.2.2) := by
  obtain ⟨b, off, rfl, hb, hc⟩ := h.cell (by omega)
  exact ⟨b, off, rfl, hb, hc j hj 0 _ rfl, hc j hj 1 _ rfl, hc j hj 2 _ rfl, hc j hj 3 _ rfl⟩
theorem tkok_at {T : List Tk} (h : ∀ x ∈ T, Tkok x) {j : Nat} (hj : j < T.length) : Tkok (T.getD j tk0) := by
  rw [List.getD, List.getElem?_eq_getElem hj]
  exact h _ (List.getElem_mem _)
theorem u32Cells1 : Tryz.prog.cellsOf 22 = 1 := by kernel_rfl
theorem takeCells4 : Tryz.prog.cellsOf 87 = 4 := by kernel_rfl
theorem takesCells1 : Tryz.prog.cellsOf 26 = 1 := by kernel_rfl
theorem progCells10 : Tryz.prog.cellsOf 28 = 10 := by kernel_rfl
theorem bounds32 {n : Int} (h : (Lit.int .u32 n).wf = true) : 0 ≤ n ∧ n ≤ 4294967295 := by
  have := bounds_u32 h
  omega
section
variable {H : Type} {enc : TypeId × Value → H} {w : World} {base : Nat} {held : Bool}
theorem take_trod {spare : Nat → Bool} {fuel : Nat} {cs : List Value} {d : DataW H × List MemPlace} (h : DataW.trod enc Tryz.prog w base spare held fuel 87 cs = some d) : ∃ x : Tk, Tkok x ∧ cs = tkc x := by
  obtain ⟨xs, n, _, _, hlen, hxl, hg⟩ := DataW.trod_struct Tryz.underlying87 h
  rw [takeCells4] at hlen
  obtain ⟨v0, v1, v2, v3, rfl⟩ : ∃ v0 v1 v2 v3, cs = [v0, v1, v2, v3] := by
    match cs, hlen with
    | [a, b, c, d], _ => exact ⟨a, b, c, d, rfl⟩
  have h4 : xs.length = 4 := hxl
  have t0 := hg 0 _ rfl
  have t1 := hg 1 _ rfl
  have t2 := hg 2 _ rfl
  have t3 := hg 3 _ rfl
  rw [List.getElem?_eq_getElem (by omega)] at t0 t1 t2 t3
  have e0 : DataW.trod enc Tryz.prog w base spare held n 22 [v0] = some (xs[0]'(by omega)) := t0
  have e1 : DataW.trod enc Tryz.prog w base spare held n 5 [v1] = some (xs[1]'(by omega)) := t1
  have e2 : DataW.trod enc Tryz.prog w base spare held n 5 [v2] = some (xs[2]'(by omega)) := t2
  have e3 : DataW.trod enc Tryz.prog w base spare held n 2 [v3] = some (xs[3]'(by omega)) := t3
  obtain ⟨z0, hv0, _, wf0⟩ := DataW.trod_int Tryz.underlying22 e0
  obtain ⟨z1, hv1, _, wf1⟩ := DataW.trod_int Tryz.underlying5 e1
  obtain ⟨z2, hv2, _, wf2⟩ := DataW.trod_int Tryz.underlying5 e2
  obtain ⟨z3, hv3, _, wf3⟩ := DataW.trod_int Tryz.underlying2 e3
  simp at hv0 hv1 hv2 hv3
  subst hv0 hv1 hv2 hv3
  exact ⟨(z0, z1, z2, z3), ⟨bounds32 wf0, bounds_u8 wf1, bounds_u8 wf2, bounds_i64 wf3⟩, rfl⟩
/-- A slice of takes that came in. -/
theorem open_takes {fuel : Nat} {a : Option Addr} {len cap : Nat} {x : DataW H × List MemPlace}
    (h : DataW.trod enc Tryz.prog w base (fun _ => true) held fuel 26 [.slice a len cap] = some x) : ∃ L, TKL w a len cap L ∧ ∀ y ∈ L, Tkok y := by
  rcases open_slice Tryz.underlying26 h with ⟨hcs, _⟩ | ⟨a', l, c, m, n, D, Pl, hcs, hb, hl, hm, hmm, hx, hi⟩
  · simp at hcs
    obtain ⟨rfl, rfl, rfl⟩ := hcs
    exact ⟨[], SlG.empty w, fun y hy => by cases hy⟩
  · simp at hcs
    obtain ⟨rfl, rfl, rfl⟩ := hcs
    rw [if_pos rfl] at hmm
    subst hmm
    have hall : ∀ i, i < len → ∃ y : Tk, Tkok y ∧ ∀ j u, (tkc y)[j]? = some u → w.cell? (a'.add (i * 4 + j)) = some u := by
      intro i hil
      obtain ⟨cs', hc, ht⟩ := hi i (by omega)
      rw [takeCells4] at hc
      obtain ⟨y, hy, rfl⟩ := take_trod ht
      obtain ⟨_, hcl, hat⟩ := World.cells?_some hc
      refine ⟨y, hy, fun j u hu => ?_⟩
      have hj : j < 4 := (List.getElem?_eq_some_iff.1 hu).1
      have := hat j hj
      rw [← Go.Deep.add_add, this]
      exact hu
    obtain ⟨f, hf⟩ : ∃ f : Nat → Tk, ∀ i, i < len → Tkok (f i) ∧ ∀ j u, (tkc (f i))[j]? = some u → w.cell? (a'.add (i * 4 + j)) = some u :=
      ⟨fun i => if h : i < len then Classical.choose (hall i h) else tk0, fun i h => by dsimp only; rw [dif_pos h]; exact Classical.choose_spec (hall i h)⟩
    refine ⟨(List.range len).map f, ⟨by simp, hl, hm, (fun h => by cases h), fun h0 => ?_⟩, fun y hy => ?_⟩
    · have h00 := (hf 0 h0).2 0 _ rfl
      have hsp : a'.spot = none := World.cell?_spot (a := a') (by simpa [Addr.add] using h00)
      obtain ⟨b, off, sp⟩ := a'
      replace hsp : sp = none := hsp
      subst hsp
      rw [Go.WideShapes.add_plain] at h00
      refine ⟨b, off, rfl, World.block_lt_of_cell? _ _ h00, fun j hj i v hv => ?_⟩
      have e : ((List.range len).map f).getD j tk0 = f j := by
        rw [List.getD, List.getElem?_map, List.getElem?_range hj]; rfl
      rw [e] at hv
      have := (hf j hj).2 i v hv
      rwa [Go.WideShapes.add_plain, ← Nat.add_assoc] at this
    · obtain ⟨i, hi', rfl⟩ := List.mem_map.1 hy
      exact (hf i (List.mem_range.1 hi')).1
/-- A slice's value. -/
theorem slice_shape {fuel : Nat} {ty e : TypeId} (hu : Tryz.prog.underlying ty = some (.slice e)) {v : Value} {d : DataW H × List MemPlace} (h : DataW.trod enc Tryz.prog w base (fun _ => true) held fuel ty [v] = some d) : ∃ a len cap, v = .slice a len cap := by
  rcases open_slice hu h with ⟨hcs, _⟩ | ⟨a', l, c', m, n', D', Pl, hcs, _⟩
  · exact ⟨none, 0, 0, by simpa using hcs⟩
  · exact ⟨some a', l, c', by simpa using hcs⟩
end
/-- The memory of a program's lists. -/
structure PgM (w : World) (lp : Option Addr) (ln lcp : Nat) (L : List Ln) (tp : Option Addr) (tn tcp : Nat) (T : List Tk) (wp : Option Addr) (wn wcp : Nat) (M : List Ln) : Prop where
  l : LL w lp ln lcp L
  t : TKL w tp tn tcp T
  o : LL w wp wn wcp M
theorem PgM.later {w w' : World} {lp : Option Addr} {ln lcp : Nat} {L : List Ln} {tp : Option Addr} {tn tcp : Nat} {T : List Tk} {wp : Option Addr} {wn wcp : Nat} {M : List Ln} (h : PgM w lp ln lcp L tp tn tcp T wp wn wcp M) (hb : Below w.heap.size w w') : PgM w' lp ln lcp L tp tn tcp T wp wn wcp M := ⟨h.l.later hb, h.t.later hb, h.o.later hb⟩
/-- What is known of a program's cells. -/
def PgIn (w : World) (a : Array Value) : Prop := ∃ (k od po : Int) (lp : Option Addr) (ln lcp : Nat) (tp : Option Addr) (tn tcp : Nat) (wp : Option Addr) (wn wcp : Nat) (sk fr to q : Int) (L : List Ln) (T : List Tk) (M : List Ln), a = #[.int .u8 k, .int .u32 od, .int .u8 po, .slice lp ln lcp, .slice tp tn tcp, .slice wp wn wcp, .int .u8 sk, .int .u8 fr, .int .u8 to, .int .i64 q] ∧ Pgok ⟨k, od, po, L, T, M, sk, fr, to, q⟩ ∧ PgM w lp ln lcp L tp tn tcp T wp wn wcp M
theorem open_prog {H : Type} {enc : TypeId × Value → H} {w : World} {base b0 : Nat} {held : Bool} {r : Reach} {v : Value} {d : DataW H} {p : List MemPlace}
    (hv : Value.okWide Tryz.prog w r b0 28 v) (h : DataW.Trod enc Tryz.prog w base (fun _ => true) held 28 v d p) : ∃ c, v = .agg c ∧ PgIn w c := by
  obtain ⟨c, rfl, hsz⟩ := okWide_struct Tryz.underlying28 hv
  obtain ⟨fuel, hf⟩ := h
  obtain ⟨xs, n, _, _, hlen, hxl, hg⟩ := DataW.trod_struct Tryz.underlying28 hf
  rw [progCells10] at hlen
  have h10 : xs.length = 10 := hxl
  obtain ⟨v0, v1, v2, v3, v4, v5, v6, v7, v8, v9, hcs⟩ : ∃ v0 v1 v2 v3 v4 v5 v6 v7 v8 v9, c.toList = [v0, v1, v2, v3, v4, v5, v6, v7, v8, v9] := by
    match h : c.toList, hlen with
    | [a0, a1, a2, a3, a4, a5, a6, a7, a8, a9], _ => exact ⟨a0, a1, a2, a3, a4, a5, a6, a7, a8, a9, rfl⟩
  have hcells : (Value.agg c).cells.toList = c.toList := rfl
  rw [hcells, hcs] at hg
  have t0 := hg 0 _ rfl
  have t1 := hg 1 _ rfl
  have t2 := hg 2 _ rfl
  have t3 := hg 3 _ rfl
  have t4 := hg 4 _ rfl
  have t5 := hg 5 _ rfl
  have t6 := hg 6 _ rfl
  have t7 := hg 7 _ rfl
  have t8 := hg 8 _ rfl
  have t9 := hg 9 _ rfl
  rw [List.getElem?_eq_getElem (by omega)] at t0 t1 t2 t3 t4 t5 t6 t7 t8 t9
  have e0 : DataW.trod enc Tryz.prog w base (fun _ => true) held n 5 [v0] = some (xs[0]'(by omega)) := t0
  have e1 : DataW.trod enc Tryz.prog w base (fun _ => true) held n 22 [v1] = some (xs[1]'(by omega)) := t1
  have e2 : DataW.trod enc Tryz.prog w base (fun _ => true) held n 5 [v2] = some (xs[2]'(by omega)) := t2
  have e3 : DataW.trod enc Tryz.prog w base (fun _ => true) held n 25 [v3] = some (xs[3]'(by omega)) := t3
  have e4 : DataW.trod enc Tryz.prog w base (fun _ => true) held n 26 [v4] = some (xs[4]'(by omega)) := t4
  have e5 : DataW.trod enc Tryz.prog w base (fun _ => true) held n 25 [v5] = some (xs[5]'(by omega)) := t5
  have e6 : DataW.trod enc Tryz.prog w base (fun _ => true) held n 5 [v6] = some (xs[6]'(by omega)) := t6
  have e7 : DataW.trod enc Tryz.prog w base (fun _ => true) held n 5 [v7] = some (xs[7]'(by omega)) := t7
  have e8 : DataW.trod enc Tryz.prog w base (fun _ => true) held n 5 [v8] = some (xs[8]'(by omega)) := t8
  have e9 : DataW.trod enc Tryz.prog w base (fun _ => true) held n 2 [v9] = some (xs[9]'(by omega)) := t9
  obtain ⟨z0, hv0, _, wf0⟩ := DataW.trod_int Tryz.underlying5 e0
  obtain ⟨z1, hv1, _, wf1⟩ := DataW.trod_int Tryz.underlying22 e1
  obtain ⟨z2, hv2, _, wf2⟩ := DataW.trod_int Tryz.underlying5 e2
  obtain ⟨z6, hv6, _, wf6⟩ := DataW.trod_int Tryz.underlying5 e6
  obtain ⟨z7, hv7, _, wf7⟩ := DataW.trod_int Tryz.underlying5 e7
  obtain ⟨z8, hv8, _, wf8⟩ := DataW.trod_int Tryz.underlying5 e8
  obtain ⟨z9, hv9, _, wf9⟩ := DataW.trod_int Tryz.underlying2 e9
  simp at hv0 hv1 hv2 hv6 hv7 hv8 hv9
  subst hv0 hv1 hv2 hv6 hv7 hv8 hv9
  obtain ⟨p3, n3, c3, rfl⟩ := slice_shape Tryz.underlying25 e3
  obtain ⟨p4, n4, c4, rfl⟩ := slice_shape Tryz.underlying26 e4
  obtain ⟨p5, n5, c5, rfl⟩ := slice_shape Tryz.underlying25 e5
  obtain ⟨L, hL, hLok⟩ := open_lines e3
  obtain ⟨T, hT, hTok⟩ := open_takes e4
  obtain ⟨M, hM, hMok⟩ := open_lines e5
  exact ⟨c, rfl, z0, z1, z2, p3, n3, c3, p4, n4, c4, p5, n5, c5, z6, z7, z8, z9, L, T, M, Array.ext' hcs, ⟨bounds_u8 wf0, bounds32 wf1, bounds_u8 wf2, hLok, hTok, hMok, bounds_u8 wf6, bounds_u8 wf7, bounds_u8 wf8, bounds_i64 wf9⟩, ⟨hL, hT, hM⟩⟩
end Go.Proofs.YtdcanppiiikjgaaGreatDoor
