import Derived.Test.YtmdldbchdnkfcaaPA21
import Derived.Test.YtmdldbchdnkfcaaPA01
import Derived.Test.YtmdldbchdnkfcaaPA12
namespace Go.Proofs.Ytmdldbchdnkfcaa
open Go.RowKit Go.ChangeShapes Go.WideShapes Go.Deep
set_option linter.unusedVariables false
set_option maxRecDepth 10000
set_option linter.unusedSimpArgs false
def oc (o : O) : List Value := [.int .u8 o.1.1, .int .u8 o.1.2.1, .int .u8 o.1.2.2, .int .i64 o.2]
theorem oc_len (o : O) : (oc o).length = 4 := rfl
theorem oc_one (o : O) : ∀ u ∈ oc o, u.oneCell' = true := by
 intro u hu
 simp only [oc, List.mem_cons, List.not_mem_nil, or_false] at hu
 rcases hu with rfl | rfl | rfl | rfl <;> rfl
abbrev OL (w : World) (p : Option Addr) (n c : Nat) (L : List O) : Prop := SlG oc 4 o0 w p n c L
theorem info_op : (Try.prog.info? 34).map (fun i => (i.zero, i.size, i.bytes)) = some (some (.agg #[.int .u8 0, .int .u8 0, .int .u8 0, .int .i64 0]), 4, 16) := by kernel_rfl
theorem op_news (w : World) (x : O) : ∀ i u, (oc x)[i]? = some u → (w.alloc (.cells #[.int .u8 x.1.1, .int .u8 x.1.2.1, .int .u8 x.1.2.2, .int .i64 x.2] 34)).cell? ⟨w.heap.size, i, none⟩ = some u :=
 fun i u hu => block_cell (alloc_block w _) (by simpa [oc] using hu)
theorem op_cells {w : World} {p : Option Addr} {n c : Nat} {L : List O} (h : OL w p n c L) {j : Nat} (hj : j < n) : ∃ b off, p = some ⟨b, off, none⟩ ∧ b < w.heap.size ∧ w.cell? ⟨b, off + j * 4, none⟩ = some (.int .u8 (L.getD j o0).1.1) ∧ w.cell? ⟨b, off + j * 4 + 1, none⟩ = some (.int .u8 (L.getD j o0).1.2.1) ∧ w.cell? ⟨b, off + j * 4 + 2, none⟩ = some (.int .u8 (L.getD j o0).1.2.2) ∧ w.cell? ⟨b, off + j * 4 + 3, none⟩ = some (.int .i64 (L.getD j o0).2) := by
 obtain ⟨b, off, rfl, hb, hc⟩ := h.cell (by omega)
 exact ⟨b, off, rfl, hb, hc j hj 0 _ rfl, hc j hj 1 _ rfl, hc j hj 2 _ rfl, hc j hj 3 _ rfl⟩
theorem ok_at {L : List O} (h : ∀ o ∈ L, Ook o) {j : Nat} (hj : j < L.length) : Ook (L.getD j o0) := by
 rw [List.getD, List.getElem?_eq_getElem hj]
 exact h _ (List.getElem_mem _)
theorem opCells : Try.prog.cellsOf 34 = 4 := by kernel_rfl
theorem intCells : Try.prog.cellsOf 2 = 1 := by kernel_rfl
section
variable {H : Type} {enc : TypeId × Value → H} {w : World} {base : Nat} {spare : Nat → Bool} {held : Bool}
theorem key_trod {fuel : Nat} {x y z : Value} {d : DataW H × List MemPlace} (h : DataW.trod enc Try.prog w base spare held fuel 32 [x, y, z] = some d) : ∃ k : K, Kok k ∧ x = .int .u8 k.1 ∧ y = .int .u8 k.2.1 ∧ z = .int .u8 k.2.2 := by
 obtain ⟨y0, y1, y2, n, _, _, t0, t1, t2⟩ := trod_struct3 Try.underlying32 h
 simp only [byteCells, List.drop_zero, List.drop_succ_cons, List.take_succ_cons, List.take_zero] at t0 t1 t2
 obtain ⟨z0, hv0, _, wf0⟩ := DataW.trod_int Try.underlying5 t0
 obtain ⟨z1, hv1, _, wf1⟩ := DataW.trod_int Try.underlying5 t1
 obtain ⟨z2, hv2, _, wf2⟩ := DataW.trod_int Try.underlying5 t2
 simp at hv0 hv1 hv2
 exact ⟨(z0, z1, z2), ⟨bounds_u8 wf0, bounds_u8 wf1, bounds_u8 wf2⟩, hv0, hv1, hv2⟩
theorem op_trod {fuel : Nat} {cs : List Value} {d : DataW H × List MemPlace} (h : DataW.trod enc Try.prog w base spare held fuel 34 cs = some d) : ∃ o : O, Ook o ∧ cs = oc o := by
 obtain ⟨_, _, _, _, hlen, _, _⟩ := DataW.trod_struct Try.underlying34 h
 rw [opCells] at hlen
 obtain ⟨y0, y1, n, _, _, t0, t1⟩ := trod_struct2 Try.underlying34 h
 obtain ⟨v0, v1, v2, v3, rfl⟩ : ∃ v0 v1 v2 v3, cs = [v0, v1, v2, v3] := by
  match cs, hlen with
  | [a, b, c, d], _ => exact ⟨a, b, c, d, rfl⟩
 simp only [keyCells, intCells, List.drop_zero, List.drop_succ_cons, List.take_succ_cons, List.take_zero] at t0 t1
 obtain ⟨k, hk, rfl, rfl, rfl⟩ := key_trod t0
 obtain ⟨z3, hv3, _, wf3⟩ := DataW.trod_int Try.underlying2 t1
 simp at hv3
 subst hv3
 exact ⟨(k, z3), ⟨hk, bounds_i64 wf3⟩, rfl⟩
theorem open_ops {fuel : Nat} {a : Option Addr} {len cap : Nat} {x : DataW H × List MemPlace}
 (h : DataW.trod enc Try.prog w base (fun _ => true) held fuel 43 [.slice a len cap] = some x) : ∃ L, OL w a len cap L ∧ ∀ y ∈ L, Ook y := by
 rcases open_slice Try.underlying43 h with ⟨hcs, _⟩ | ⟨a', l, c, m, n, D, Pl, hcs, hb, hl, hm, hmm, hx, hi⟩
 · simp at hcs
   obtain ⟨rfl, rfl, rfl⟩ := hcs
   exact ⟨[], SlG.empty w, fun y hy => by cases hy⟩
 · simp at hcs
   obtain ⟨rfl, rfl, rfl⟩ := hcs
   rw [if_pos rfl] at hmm
   subst hmm
   have hall : ∀ i, i < len → ∃ y : O, Ook y ∧ ∀ j u, (oc y)[j]? = some u → w.cell? (a'.add (i * 4 + j)) = some u := by
    intro i hil
    obtain ⟨cs', hc, ht⟩ := hi i (by omega)
    rw [opCells] at hc
    obtain ⟨y, hy, rfl⟩ := op_trod ht
    obtain ⟨_, hcl, hat⟩ := World.cells?_some hc
    refine ⟨y, hy, fun j u hu => ?_⟩
    have hj : j < 4 := (List.getElem?_eq_some_iff.1 hu).1
    have := hat j hj
    rw [← Go.Deep.add_add, this]
    exact hu
   obtain ⟨f, hf⟩ : ∃ f : Nat → O, ∀ i, i < len → Ook (f i) ∧ ∀ j u, (oc (f i))[j]? = some u → w.cell? (a'.add (i * 4 + j)) = some u :=
    ⟨fun i => if h : i < len then Classical.choose (hall i h) else o0, fun i h => by dsimp only; rw [dif_pos h]; exact Classical.choose_spec (hall i h)⟩
   refine ⟨(List.range len).map f, ⟨by simp, hl, hm, (fun h => by cases h), fun h0 => ?_⟩, fun y hy => ?_⟩
   · have h00 := (hf 0 h0).2 0 _ rfl
     have hsp : a'.spot = none := World.cell?_spot (a := a') (by simpa [Addr.add] using h00)
     obtain ⟨b, off, sp⟩ := a'
     replace hsp : sp = none := hsp
     subst hsp
     rw [Go.WideShapes.add_plain] at h00
     refine ⟨b, off, rfl, World.block_lt_of_cell? _ _ h00, fun j hj i v hv => ?_⟩
     have e : ((List.range len).map f).getD j o0 = f j := by
      rw [List.getD, List.getElem?_map, List.getElem?_range hj]; rfl
     rw [e] at hv
     have := (hf j hj).2 i v hv
     rwa [Go.WideShapes.add_plain, ← Nat.add_assoc] at this
   · obtain ⟨i, hi', rfl⟩ := List.mem_map.1 hy
     exact (hf i (List.mem_range.1 hi')).1
end
def OpIn (w : World) (c : Array Value) : Prop := ∃ y : O, Ook y ∧ c.toList = oc y
theorem open_op {H : Type} {enc : TypeId × Value → H} {w : World} {base b0 : Nat} {held : Bool} {r : Reach} {v : Value} {d : DataW H} {p : List MemPlace}
 (hv : Value.okWide Try.prog w r b0 34 v) (h : DataW.Trod enc Try.prog w base (fun _ => true) held 34 v d p) : ∃ c, v = .agg c ∧ OpIn w c := by
 obtain ⟨c, rfl, hsz⟩ := okWide_struct Try.underlying34 hv
 obtain ⟨fuel, hf⟩ := h
 rw [opCells] at hsz
 obtain ⟨m, hok, hcs⟩ := op_trod hf
 exact ⟨c, rfl, m, hok, by simpa [Value.cells] using hcs⟩
end Go.Proofs.Ytmdldbchdnkfcaa
