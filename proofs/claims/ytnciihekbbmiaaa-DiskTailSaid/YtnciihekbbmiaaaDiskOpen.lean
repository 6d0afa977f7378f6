/- Acts that came in. -/
import Derived.Test.YtnciihekbbmiaaaDiskFew
import Derived.Deep.Slices
import Derived.Deep.Fields
import Derived.Deep.Strs
import Derived.OpenShut
import Derived.ChangeSame
import Derived.Lib.SmallJoins
namespace Go.Proofs.Ytnciihekbbmiaaa
open Go.RowKit Go.ChangeShapes Go.WideShapes Go.Deep
set_option linter.unusedVariables false
set_option maxRecDepth 10000

theorem actCells5 : Try.prog.cellsOf 41 = 5 := by kernel_rfl
theorem byteCells1 : Try.prog.cellsOf 5 = 1 := by kernel_rfl
theorem intCells1 : Try.prog.cellsOf 3 = 1 := by kernel_rfl
theorem tailCells4 : Try.prog.cellsOf 56 = 4 := by kernel_rfl
theorem longCells1 : Try.prog.cellsOf 2 = 1 := by kernel_rfl
theorem rowCells1 : Try.prog.cellsOf 31 = 1 := by kernel_rfl
theorem trod_struct5 {H : Type} {enc : TypeId × Value → H} {P : Program} {w : World} {base : Nat} {spare : Nat → Bool} {held : Bool} {t : TypeId} {f0 f1 f2 f3 f4 : Field} {fuel : Nat} {cs : List Value} {x : DataW H × List MemPlace} (ht : P.underlying t = some (.struct #[f0, f1, f2, f3, f4])) (h : DataW.trod enc P w base spare held fuel t cs = some x) :
    ∃ y0 y1 y2 y3 y4 n, cs.length = P.cellsOf t ∧ DataW.trod enc P w base spare held n f0.type ((cs.drop f0.offset).take (P.cellsOf f0.type)) = some y0 ∧
      DataW.trod enc P w base spare held n f1.type ((cs.drop f1.offset).take (P.cellsOf f1.type)) = some y1 ∧ DataW.trod enc P w base spare held n f2.type ((cs.drop f2.offset).take (P.cellsOf f2.type)) = some y2 ∧
      DataW.trod enc P w base spare held n f3.type ((cs.drop f3.offset).take (P.cellsOf f3.type)) = some y3 ∧ DataW.trod enc P w base spare held n f4.type ((cs.drop f4.offset).take (P.cellsOf f4.type)) = some y4 := by
  obtain ⟨xs, n, _, rfl, hl, hlen, hf⟩ := DataW.trod_struct ht h
  match xs, hlen with
  | [y0, y1, y2, y3, y4], _ => exact ⟨y0, y1, y2, y3, y4, n, hl, by simpa using hf 0 f0 rfl, by simpa using hf 1 f1 rfl, by simpa using hf 2 f2 rfl, by simpa using hf 3 f3 rfl, by simpa using hf 4 f4 rfl⟩
/-- Nothing is asked of a byte, of an act. -/
def AnyI (_ : Int) : Prop := True
def AnyA (_ : Ac) : Prop := True
section
variable {H : Type} {enc : TypeId × Value → H} {w : World} {base : Nat} {held : Bool}
/-- A slice of bytes that came in. -/
theorem open_bl {fuel : Nat} {v : Value} {d : DataW H × List MemPlace} (h : DataW.trod enc Try.prog w base (fun _ => true) held fuel 31 [v] = some d) : ∃ p n c L, v = .slice p n c ∧ BL w p n c L := by
  rcases open_ints Try.underlying31 Try.underlying5 (by kernel_rfl) h with ⟨hcs, _⟩ | ⟨x, l, c, zs, hcs, _, hl, hm, hz, _, hcell, hwz⟩
  · simp at hcs
    subst hcs
    exact ⟨none, 0, 0, [], rfl, SlG.empty w⟩
  · simp at hcs
    subst hcs
    rw [if_pos rfl] at hz
    refine ⟨_, _, _, zs.take l, rfl, BL.mk (by rw [List.length_take]; omega) hl hm (fun h => by cases h) fun h0 => ?_⟩
    have h00 := hcell 0 (by omega)
    have hsp : x.spot = none := World.cell?_spot (a := x) (by simpa [Addr.add] using h00)
    obtain ⟨b, off, sp⟩ := x
    replace hsp : sp = none := hsp
    subst hsp
    refine ⟨b, off, rfl, World.block_lt_of_cell? _ _ h00, fun j hj => ?_⟩
    have := hcell j (by omega)
    rw [Go.WideShapes.add_plain] at this
    rw [this, List.getD, List.getD, List.getElem?_take, if_pos hj]
theorem byte_nat {z : Int} (h : (Lit.int .u8 z).wf = true) : ∃ n : Nat, z = n ∧ n < 256 := by
  obtain ⟨g1, g2⟩ := bounds_u8 h
  exact ⟨z.toNat, by omega, by omega⟩
theorem act_trod {fuel : Nat} {cs : List Value} {d : DataW H × List MemPlace} (h : DataW.trod enc Try.prog w base (fun _ => true) held fuel 41 cs = some d) : ∃ a : Ac, (BL w a.q a.m a.cq a.b ∧ a.k < 256) ∧ cs = ac a := by
  obtain ⟨y0, y1, y2, y3, y4, n, hlen, t0, t1, t2, t3, t4⟩ := trod_struct5 Try.underlying41 h
  rw [actCells5] at hlen
  obtain ⟨v0, v1, v2, v3, v4, rfl⟩ : ∃ v0 v1 v2 v3 v4, cs = [v0, v1, v2, v3, v4] := by
    match cs, hlen with
    | [a, b, c, d, e], _ => exact ⟨a, b, c, d, e, rfl⟩
  simp only [byteCells1, longCells1, intCells1, rowCells1, List.drop_zero, List.drop_succ_cons, List.take_succ_cons, List.take_zero] at t0 t1 t2 t3 t4
  obtain ⟨z0, hv0, hw0⟩ := DataW.trod_int Try.underlying5 t0
  obtain ⟨z1, hv1, _⟩ := DataW.trod_int Try.underlying3 t1
  obtain ⟨z2, hv2, _⟩ := DataW.trod_int Try.underlying3 t2
  obtain ⟨z3, hv3, _⟩ := DataW.trod_int Try.underlying2 t3
  obtain ⟨p, m, c, L, rfl, hb⟩ := open_bl t4
  simp at hv0 hv1 hv2 hv3
  subst hv0 hv1 hv2 hv3
  have hwf : (Lit.int .u8 z0).wf = true := by first | exact hw0 | exact hw0.2 | exact hw0.1
  obtain ⟨n0, rfl, hn0⟩ := byte_nat hwf
  exact ⟨⟨n0, z1, z2, z3, p, m, c, L⟩, ⟨hb, hn0⟩, rfl⟩
/-- A slice of acts that came in. -/
theorem open_acts {fuel : Nat} {a : Option Addr} {len cap : Nat} {x : DataW H × List MemPlace}
    (h : DataW.trod enc Try.prog w base (fun _ => true) held fuel 23 [.slice a len cap] = some x) : ∃ L, AL w a len cap L ∧ ∀ y ∈ L, AnyA y := by
  rcases open_slice Try.underlying23 h with ⟨hcs, _⟩ | ⟨a', l, c, m, n, D, Pl, hcs, hb, hl, hm, hmm, hx, hi⟩
  · simp at hcs
    obtain ⟨rfl, rfl, rfl⟩ := hcs
    exact ⟨[], ⟨SlG.empty w, fun y hy => by cases hy⟩, fun y hy => trivial⟩
  · simp at hcs
    obtain ⟨rfl, rfl, rfl⟩ := hcs
    rw [if_pos rfl] at hmm
    subst hmm
    have hall : ∀ i, i < len → ∃ y : Ac, (BL w y.q y.m y.cq y.b ∧ y.k < 256) ∧ ∀ j u, (ac y)[j]? = some u → w.cell? (a'.add (i * 5 + j)) = some u := by
      intro i hil
      obtain ⟨cs', hc, ht⟩ := hi i (by omega)
      rw [actCells5] at hc
      obtain ⟨y, hy, rfl⟩ := act_trod ht
      obtain ⟨_, hcl, hat⟩ := World.cells?_some hc
      refine ⟨y, hy, fun j u hu => ?_⟩
      have hj : j < 5 := (List.getElem?_eq_some_iff.1 hu).1
      have := hat j hj
      rw [← Go.Deep.add_add, this]
      exact hu
    obtain ⟨f, hf⟩ : ∃ f : Nat → Ac, ∀ i, i < len → (BL w (f i).q (f i).m (f i).cq (f i).b ∧ (f i).k < 256) ∧ ∀ j u, (ac (f i))[j]? = some u → w.cell? (a'.add (i * 5 + j)) = some u :=
      ⟨fun i => if h : i < len then Classical.choose (hall i h) else ac0, fun i h => by dsimp only; rw [dif_pos h]; exact Classical.choose_spec (hall i h)⟩
    refine ⟨(List.range len).map f, ⟨⟨by simp, hl, hm, (fun h => by cases h), fun h0 => ?_⟩, fun y hy => ?_⟩, fun y hy => trivial⟩
    · have h00 := (hf 0 h0).2 0 _ rfl
      have hsp : a'.spot = none := World.cell?_spot (a := a') (by simpa [Addr.add] using h00)
      obtain ⟨b, off, sp⟩ := a'
      replace hsp : sp = none := hsp
      subst hsp
      rw [Go.WideShapes.add_plain] at h00
      refine ⟨b, off, rfl, World.block_lt_of_cell? _ _ h00, fun j hj i v hv => ?_⟩
      have e : ((List.range len).map f).getD j ac0 = f j := by
        rw [List.getD, List.getElem?_map, List.getElem?_range hj]; rfl
      rw [e] at hv
      have := (hf j hj).2 i v hv
      rwa [Go.WideShapes.add_plain, ← Nat.add_assoc] at this
    · obtain ⟨i, hi', rfl⟩ := List.mem_map.1 hy
      exact (hf i (List.mem_range.1 hi')).1
theorem open_blk {fuel : Nat} {a : Option Addr} {len cap : Nat} {x : DataW H × List MemPlace} (h : DataW.trod enc Try.prog w base (fun _ => true) held fuel 31 [.slice a len cap] = some x) : ∃ L, BL w a len cap L ∧ ∀ y ∈ L, AnyI y := by
  obtain ⟨p, n, c, L, e, hb⟩ := open_bl h
  cases e
  exact ⟨L, hb, fun _ _ => trivial⟩
end
/-- What is known of an act's cells. -/
def ActIn (w : World) (c : Array Value) : Prop := ∃ y : Ac, c = (ac y).toArray ∧ BL w y.q y.m y.cq y.b ∧ y.k < 256
theorem open_act {H : Type} {enc : TypeId × Value → H} {w : World} {base b0 : Nat} {held : Bool} {r : Reach} {v : Value} {d : DataW H} {p : List MemPlace}
    (hv : Value.okWide Try.prog w r b0 41 v) (h : DataW.Trod enc Try.prog w base (fun _ => true) held 41 v d p) : ∃ c, v = .agg c ∧ ActIn w c := by
  obtain ⟨c, rfl, hsz⟩ := okWide_struct Try.underlying41 hv
  obtain ⟨fuel, hf⟩ := h
  obtain ⟨y, hb, hc⟩ := act_trod hf
  refine ⟨c, rfl, y, ?_, hb⟩
  have h2 : c.toList = ac y := hc
  rw [← h2]
/-- What is known of a tail's cells. -/
def TailIn (w : World) (c : Array Value) : Prop := ∃ (p : Option Addr) (n cp : Nat) (L : List Int) (p' : Option Addr) (n' cp' : Nat) (L' : List Int) (k t : Nat), c = #[.slice p n cp, .slice p' n' cp', .int .u8 (k : Nat), .int .u8 (t : Nat)] ∧ BL w p n cp L ∧ BL w p' n' cp' L' ∧ k < 256 ∧ t < 256
theorem open_tail {H : Type} {enc : TypeId × Value → H} {w : World} {base b0 : Nat} {held : Bool} {r : Reach} {v : Value} {d : DataW H} {p : List MemPlace}
    (hv : Value.okWide Try.prog w r b0 56 v) (h : DataW.Trod enc Try.prog w base (fun _ => true) held 56 v d p) : ∃ c, v = .agg c ∧ TailIn w c := by
  obtain ⟨c, rfl, hsz⟩ := okWide_struct Try.underlying56 hv
  rw [tailCells4] at hsz
  obtain ⟨c0, c1, c2, c3, rfl⟩ := Go.Joins.array4 hsz
  obtain ⟨fuel, hf⟩ := h
  obtain ⟨y0, y1, y2, y3, n, _, _, t0, t1, t2, t3⟩ := Go.Joins.trod_struct4 Try.underlying56 hf
  simp only [Value.cells, byteCells1, rowCells1, List.drop_zero, List.drop_succ_cons, List.take_succ_cons, List.take_zero] at t0 t1 t2 t3
  obtain ⟨q0, m0, k0, L0, rfl, hb0⟩ := open_bl t0
  obtain ⟨q1, m1, k1, L1, rfl, hb1⟩ := open_bl t1
  obtain ⟨z2, hv2, hw2⟩ := DataW.trod_int Try.underlying5 t2
  obtain ⟨z3, hv3, hw3⟩ := DataW.trod_int Try.underlying5 t3
  simp at hv2 hv3
  subst hv2 hv3
  have hwf2 : (Lit.int .u8 z2).wf = true := by first | exact hw2 | exact hw2.2 | exact hw2.1
  have hwf3 : (Lit.int .u8 z3).wf = true := by first | exact hw3 | exact hw3.2 | exact hw3.1
  obtain ⟨n2, rfl, hn2⟩ := byte_nat hwf2
  obtain ⟨n3, rfl, hn3⟩ := byte_nat hwf3
  exact ⟨_, rfl, q0, m0, k0, L0, q1, m1, k1, L1, n2, n3, rfl, hb0, hb1, hn2, hn3⟩
end Go.Proofs.Ytnciihekbbmiaaa
