/- Lines in memory; steps that came in; a row that grows by whole lists. -/
import Derived.Test.YtnmdplefedffnaaDoorStepMath
import Derived.Test.YtnmdplefedffnaaDoorOpAppend
import Derived.Lib.SmallJoins
import Derived.OpenShut
namespace Go.Proofs.YtnmdplefedffnaaDoor
open Go.RowKit Go.ChangeShapes Go.WideShapes Go.Deep
set_option linter.unusedVariables false
set_option maxRecDepth 10000

/-- A line's cells. -/
def lc (x : Ln) : List Value := [.int .u8 x.1, .int .i64 x.2]
theorem lc_len (x : Ln) : (lc x).length = 2 := rfl
abbrev LL (w : World) (p : Option Addr) (n c : Nat) (L : List Ln) : Prop := SlG lc 2 l0 w p n c L
theorem line_cells {w : World} {p : Option Addr} {n c : Nat} {L : List Ln} (h : LL w p n c L) {j : Nat} (hj : j < n) : ∃ b off, p = some ⟨b, off, none⟩ ∧ b < w.heap.size ∧ w.cell? ⟨b, off + j * 2, none⟩ = some (.int .u8 (L.getD j l0).1) ∧ w.cell? ⟨b, off + j * 2 + 1, none⟩ = some (.int .i64 (L.getD j l0).2) := by
  obtain ⟨b, off, rfl, hb, hc⟩ := h.cell (by omega)
  exact ⟨b, off, rfl, hb, hc j hj 0 _ rfl, hc j hj 1 _ rfl⟩
theorem lnok_at {L : List Ln} (h : ∀ x ∈ L, Lnok x) {j : Nat} (hj : j < L.length) : Lnok (L.getD j l0) := by
  rw [List.getD, List.getElem?_eq_getElem hj]
  exact h _ (List.getElem_mem _)
theorem byteCells1 : Tryd.prog.cellsOf 5 = 1 := by kernel_rfl
theorem lineCells : Tryd.prog.cellsOf 44 = 2 := by kernel_rfl
theorem linesCells : Tryd.prog.cellsOf 22 = 1 := by kernel_rfl
theorem stepCells : Tryd.prog.cellsOf 24 = 3 := by kernel_rfl
section
variable {H : Type} {enc : TypeId × Value → H} {w : World} {base : Nat} {held : Bool}
theorem line_trod {spare : Nat → Bool} {fuel : Nat} {cs : List Value} {d : DataW H × List MemPlace} (h : DataW.trod enc Tryd.prog w base spare held fuel 44 cs = some d) : ∃ x : Ln, Lnok x ∧ cs = lc x := by
  obtain ⟨_, _, _, _, hlen, _, _⟩ := DataW.trod_struct Tryd.underlying44 h
  rw [lineCells] at hlen
  obtain ⟨y0, y1, n, _, _, t0, t1⟩ := trod_struct2 Tryd.underlying44 h
  obtain ⟨v0, v1, rfl⟩ : ∃ v0 v1, cs = [v0, v1] := by
    match cs, hlen with
    | [a, b], _ => exact ⟨a, b, rfl⟩
  simp only [byteCells1, intCells, List.drop_zero, List.drop_succ_cons, List.take_succ_cons, List.take_zero] at t0 t1
  obtain ⟨z0, hv0, _, wf0⟩ := DataW.trod_int Tryd.underlying5 t0
  obtain ⟨z1, hv1, _, wf1⟩ := DataW.trod_int Tryd.underlying2 t1
  simp at hv0 hv1
  subst hv0 hv1
  exact ⟨(z0, z1), ⟨bounds_u8 wf0, bounds_i64 wf1⟩, rfl⟩
/-- A slice of lines that came in. -/
theorem open_lines {fuel : Nat} {a : Option Addr} {len cap : Nat} {x : DataW H × List MemPlace}
    (h : DataW.trod enc Tryd.prog w base (fun _ => true) held fuel 22 [.slice a len cap] = some x) : ∃ L, LL w a len cap L ∧ ∀ y ∈ L, Lnok y := by
  rcases open_slice Tryd.underlying22 h with ⟨hcs, _⟩ | ⟨a', l, c, m, n, D, Pl, hcs, hb, hl, hm, hmm, hx, hi⟩
  · simp at hcs
    obtain ⟨rfl, rfl, rfl⟩ := hcs
    exact ⟨[], SlG.empty w, fun y hy => by cases hy⟩
  · simp at hcs
    obtain ⟨rfl, rfl, rfl⟩ := hcs
    rw [if_pos rfl] at hmm
    subst hmm
    have hall : ∀ i, i < len → ∃ y : Ln, Lnok y ∧ ∀ j u, (lc y)[j]? = some u → w.cell? (a'.add (i * 2 + j)) = some u := by
      intro i hil
      obtain ⟨cs', hc, ht⟩ := hi i (by omega)
      rw [lineCells] at hc
      obtain ⟨y, hy, rfl⟩ := line_trod ht
      obtain ⟨_, hcl, hat⟩ := World.cells?_some hc
      refine ⟨y, hy, fun j u hu => ?_⟩
      have hj : j < 2 := (List.getElem?_eq_some_iff.1 hu).1
      have := hat j hj
      rw [← Go.Deep.add_add, this]
      exact hu
    obtain ⟨f, hf⟩ : ∃ f : Nat → Ln, ∀ i, i < len → Lnok (f i) ∧ ∀ j u, (lc (f i))[j]? = some u → w.cell? (a'.add (i * 2 + j)) = some u :=
      ⟨fun i => if h : i < len then Classical.choose (hall i h) else l0, fun i h => by dsimp only; rw [dif_pos h]; exact Classical.choose_spec (hall i h)⟩
    refine ⟨(List.range len).map f, ⟨by simp, hl, hm, (fun h => by cases h), fun h0 => ?_⟩, fun y hy => ?_⟩
    · have h00 := (hf 0 h0).2 0 _ rfl
      have hsp : a'.spot = none := World.cell?_spot (a := a') (by simpa [Addr.add] using h00)
      obtain ⟨b, off, sp⟩ := a'
      replace hsp : sp = none := hsp
      subst hsp
      rw [Go.WideShapes.add_plain] at h00
      refine ⟨b, off, rfl, World.block_lt_of_cell? _ _ h00, fun j hj i v hv => ?_⟩
      have e : ((List.range len).map f).getD j l0 = f j := by
        rw [List.getD, List.getElem?_map, List.getElem?_range hj]; rfl
      rw [e] at hv
      have := (hf j hj).2 i v hv
      rwa [Go.WideShapes.add_plain, ← Nat.add_assoc] at this
    · obtain ⟨i, hi', rfl⟩ := List.mem_map.1 hy
      exact (hf i (List.mem_range.1 hi')).1
end
/-- What is known of a step's cells: among them its lines. -/
def StepIn (w : World) (a : Array Value) : Prop := ∃ (t r : Int) (p : Option Addr) (n c : Nat) (L : List Ln), a = #[.int .u8 t, .int .u8 r, .slice p n c] ∧ (0 ≤ t ∧ t ≤ 255) ∧ (0 ≤ r ∧ r ≤ 255) ∧ LL w p n c L ∧ ∀ x ∈ L, Lnok x
theorem open_step {H : Type} {enc : TypeId × Value → H} {w : World} {base b0 : Nat} {held : Bool} {r : Reach} {v : Value} {d : DataW H} {p : List MemPlace}
    (hv : Value.okWide Tryd.prog w r b0 24 v) (h : DataW.Trod enc Tryd.prog w base (fun _ => true) held 24 v d p) : ∃ c, v = .agg c ∧ StepIn w c := by
  obtain ⟨c, rfl, hsz⟩ := okWide_struct Tryd.underlying24 hv
  obtain ⟨fuel, hf⟩ := h
  obtain ⟨_, _, _, _, hlen, _, _⟩ := DataW.trod_struct Tryd.underlying24 hf
  rw [stepCells] at hlen
  obtain ⟨y0, y1, y2, n, _, _, t0, t1, t2⟩ := trod_struct3 Tryd.underlying24 hf
  obtain ⟨v0, v1, v2, hcs⟩ : ∃ v0 v1 v2, c.toList = [v0, v1, v2] := by
    match h : c.toList, hlen with
    | [a, b, c], _ => exact ⟨a, b, c, rfl⟩
  have hcells : (Value.agg c).cells.toList = c.toList := rfl
  rw [hcells, hcs] at t0 t1 t2
  simp only [byteCells1, linesCells, List.drop_zero, List.drop_succ_cons, List.take_succ_cons, List.take_zero] at t0 t1 t2
  obtain ⟨z0, hv0, _, wf0⟩ := DataW.trod_int Tryd.underlying5 t0
  obtain ⟨z1, hv1, _, wf1⟩ := DataW.trod_int Tryd.underlying5 t1
  simp at hv0 hv1
  subst hv0 hv1
  obtain ⟨a, len, cap, rfl⟩ : ∃ a len cap, v2 = .slice a len cap := by
    rcases open_slice Tryd.underlying22 t2 with ⟨hcs, _⟩ | ⟨a', l, c', m, n', D', Pl, hcs, _⟩
    · exact ⟨none, 0, 0, by simpa using hcs⟩
    · exact ⟨some a', l, c', by simpa using hcs⟩
  obtain ⟨L, hL, hok⟩ := open_lines t2
  exact ⟨c, rfl, z0, z1, a, len, cap, L, Array.ext' hcs, bounds_u8 wf0, bounds_u8 wf1, hL, hok⟩
/-- A row of the call's own, in an elder base. -/
theorem own_zero {w : World} {B : Nat} {T : TypeId} {k : Nat} {v : Value} {n : Nat} {xs : List Value} (h : w.ownsRow B T k v n xs) : w.ownsRow 0 T k v n xs := by
  refine ⟨h.1, ?_⟩
  rcases h.2 with hn | ⟨g, cap, cur, rfl, h1, h2, h3⟩
  · exact .inl hn
  · exact .inr ⟨g, cap, cur, rfl, Nat.zero_le _, h2, h3⟩
/-- A whole list appended. -/
theorem fill_app {W w w' : World} {v : Value} {p : Option Addr} {n c : Nat} {L M : List O} {N : Nat} (h : FillO W w v L N) (r : w'.ownsRow 0 39 4 (.slice p n c) n (flatG oc (L ++ M))) (hn : n = (L ++ M).length) (q : Chg (fun b => v.ownBlock = some b) w w') (b : ∀ b, (Value.slice p n c).ownBlock = some b → v.ownBlock = some b ∨ w.heap.size ≤ b) : FillO W w' (.slice p n c) (L ++ M) (N + M.length) := by
  subst hn
  refine ⟨⟨r.1, ?_⟩, Chg.below h.below h.below.size q fun k hk => (h.own.lt k hk).1, by have := h.most; rw [List.length_append]; omega⟩
  rcases r.2 with hn | ⟨g, cap, cur, he, h1, h2, h3⟩
  · exact .inl hn
  · refine .inr ⟨g, cap, cur, he, ?_, h2, h3⟩
    rcases b g (by rw [he]; rfl) with hk | hk
    · exact (h.own.lt g hk).1
    · exact Nat.le_trans h.below.size hk
/-- append of a whole list onto a row of the call's own. -/
theorem wpList_append_fill {W w : World} {ops : Array Oper} {rest : List Oper} {o : Oper} {a : Act} {Q : Exit → Act → World → Prop} (hgd : o.guard = none) (s x : Operand)
    (ho : o.op = .call { callee := .builtin .append, args := #[s, x], argTypes := #[29, 29] })
    (v : Value) (L : List O) (N : Nat) (hs : a.eval s = v) (hF : FillO W w v L N) (p : Option Addr) (m c : Nat) (M : List O) (hx : a.eval x = .slice p m c) (hM : OL w p m c M) (hbig : N + m ≤ 1000000)
    (h : ∀ p' n' c' w', FillO W w' (.slice p' n' c') (L ++ M) (N + m) → wpList Tryd.prog ops Q rest (a.put o.dst (.slice p' n' c')) w') : wpList Tryd.prog ops Q (o :: rest) a w := by
  have hlen := hM.len
  have hmost := hF.most
  refine wpList_append_ol hgd s x ho v L.length L hs (own_zero hF.own) p m c M hx hM (L.length + m) rfl (by omega) fun p' c' w' h1 h2 h3 => ?_
  have := fill_app hF h1 (by rw [List.length_append, hlen]) h2 h3
  rw [hlen] at this
  exact h p' _ c' w' this
theorem GivesG.since {α : Type} {enc : α → List Value} {k : Nat} {d : α} {W W2 : World} {V : List α} {e : Ending} {w' : World} (h : GivesG enc k d W2 V e w') (hb : Below W.heap.size W W2) : GivesG enc k d W V e w' := by
  obtain ⟨p, c, rfl, hs, hb2, hp⟩ := h
  exact ⟨p, c, rfl, hs, hb.trans (hb2.mono hb.size), fun a ha => Nat.le_trans hb.size (hp a ha)⟩
end Go.Proofs.YtnmdplefedffnaaDoor
