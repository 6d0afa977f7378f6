/- Acts that came in. -/
import Derived.Test.YtafpbgogjnbfpaaTapeFew
import Derived.Deep.Slices
import Derived.Deep.Fields
import Derived.Deep.Strs
import Derived.OpenShut
import Derived.ChangeSame
import Derived.Lib.SmallJoins
namespace Go.Proofs.Ytafpbgogjnbfpaa
open Go.RowKit Go.ChangeShapes Go.WideShapes Go.Deep
set_option linter.unusedVariables false

theorem actCells3 : Try.prog.cellsOf 33 = 3 := by kernel_rfl
theorem byteCells1 : Try.prog.cellsOf 5 = 1 := by kernel_rfl
theorem longCells1 : Try.prog.cellsOf 2 = 1 := by kernel_rfl
theorem rowCells1 : Try.prog.cellsOf 27 = 1 := by kernel_rfl
/-- Nothing is asked of a byte, of an act. -/
def AnyI (_ : Int) : Prop := True
def AnyA (_ : Ac) : Prop := True
section
variable {H : Type} {enc : TypeId × Value → H} {w : World} {base : Nat} {held : Bool}
/-- A slice of bytes that came in. -/
theorem open_bl {fuel : Nat} {v : Value} {d : DataW H × List MemPlace} (h : DataW.trod enc Try.prog w base (fun _ => true) held fuel 27 [v] = some d) : ∃ p n c L, v = .slice p n c ∧ BL w p n c L := by
  rcases open_ints Try.underlying27 Try.underlying5 (by kernel_rfl) h with ⟨hcs, _⟩ | ⟨x, l, c, zs, hcs, _, hl, hm, hz, _, hcell, hwz⟩
  · simp at hcs
    subst hcs
    exact ⟨none, 0, 0, [], rfl, SlG.empty w⟩
  · simp at hcs
    subst hcs
    rw [if_pos rfl] at hz
    refine ⟨_, _, _, zs.take l, rfl, BL.mk (by rw [List.length_take]; omega) hl hm (fun h => by cases h) fun h0 => ?_⟩
    have h00 := hcell 0 (by omega)
    have hsp : x.spot = none := World.cell?_spot (a := x) (by simpa [Addr.add] using h00)
    obtain ⟨b, off, sp⟩ := x
    replace hsp : sp = none := hsp
    subst hsp
    refine ⟨b, off, rfl, World.block_lt_of_cell? _ _ h00, fun j hj => ?_⟩
    have := hcell j (by omega)
    rw [Go.WideShapes.add_plain] at this
    rw [this, List.getD, List.getD, List.getElem?_take, if_pos hj]
theorem act_trod {fuel : Nat} {cs : List Value} {d : DataW H × List MemPlace} (h : DataW.trod enc Try.prog w base (fun _ => true) held fuel 33 cs = some d) : ∃ a : Ac, (BL w a.q a.m a.cq a.b ∧ a.k < 256) ∧ cs = ac a := by
  obtain ⟨_, _, _, _, hlen, _, _⟩ := DataW.trod_struct Try.underlying33 h
  rw [actCells3] at hlen
  obtain ⟨y0, y1, y2, n, _, _, t0, t1, t2⟩ := trod_struct3 Try.underlying33 h
  obtain ⟨v0, v1, v2, rfl⟩ : ∃ v0 v1 v2, cs = [v0, v1, v2] := by
    match cs, hlen with
    | [a, b, c], _ => exact ⟨a, b, c, rfl⟩
  simp only [byteCells1, longCells1, rowCells1, List.drop_zero, List.drop_succ_cons, List.take_succ_cons, List.take_zero] at t0 t1 t2
  obtain ⟨z0, hv0, hw0⟩ := DataW.trod_int Try.underlying5 t0
  obtain ⟨p, m, c, L, rfl, hb⟩ := open_bl t1
  obtain ⟨z2, hv2, _⟩ := DataW.trod_int Try.underlying2 t2
  simp at hv0 hv2
  subst hv0 hv2

  have hwf : (Lit.int .u8 z0).wf = true := by first | exact hw0 | exact hw0.2 | exact hw0.1
  obtain ⟨g1, g2⟩ := bounds_u8 hwf
  refine ⟨⟨z0.toNat, p, m, c, L, z2⟩, ⟨hb, by show z0.toNat < 256; omega⟩, ?_⟩
  show _ = [Value.int .u8 ((z0.toNat : Nat) : Int), _, _]
  rw [show ((z0.toNat : Nat) : Int) = z0 by omega]
/-- A slice of acts that came in. -/
theorem open_acts {fuel : Nat} {a : Option Addr} {len cap : Nat} {x : DataW H × List MemPlace}
    (h : DataW.trod enc Try.prog w base (fun _ => true) held fuel 22 [.slice a len cap] = some x) : ∃ L, AL w a len cap L ∧ ∀ y ∈ L, AnyA y := by
  rcases open_slice Try.underlying22 h with ⟨hcs, _⟩ | ⟨a', l, c, m, n, D, Pl, hcs, hb, hl, hm, hmm, hx, hi⟩
  · simp at hcs
    obtain ⟨rfl, rfl, rfl⟩ := hcs
    exact ⟨[], ⟨SlG.empty w, fun y hy => by cases hy⟩, fun y hy => trivial⟩
  · simp at hcs
    obtain ⟨rfl, rfl, rfl⟩ := hcs
    rw [if_pos rfl] at hmm
    subst hmm
    have hall : ∀ i, i < len → ∃ y : Ac, (BL w y.q y.m y.cq y.b ∧ y.k < 256) ∧ ∀ j u, (ac y)[j]? = some u → w.cell? (a'.add (i * 3 + j)) = some u := by
      intro i hil
      obtain ⟨cs', hc, ht⟩ := hi i (by omega)
      rw [actCells3] at hc
      obtain ⟨y, hy, rfl⟩ := act_trod ht
      obtain ⟨_, hcl, hat⟩ := World.cells?_some hc
      refine ⟨y, hy, fun j u hu => ?_⟩
      have hj : j < 3 := (List.getElem?_eq_some_iff.1 hu).1
      have := hat j hj
      rw [← Go.Deep.add_add, this]
      exact hu
    obtain ⟨f, hf⟩ : ∃ f : Nat → Ac, ∀ i, i < len → (BL w (f i).q (f i).m (f i).cq (f i).b ∧ (f i).k < 256) ∧ ∀ j u, (ac (f i))[j]? = some u → w.cell? (a'.add (i * 3 + j)) = some u :=
      ⟨fun i => if h : i < len then Classical.choose (hall i h) else ac0, fun i h => by dsimp only; rw [dif_pos h]; exact Classical.choose_spec (hall i h)⟩
    refine ⟨(List.range len).map f, ⟨⟨by simp, hl, hm, (fun h => by cases h), fun h0 => ?_⟩, fun y hy => ?_⟩, fun y hy => trivial⟩
    · have h00 := (hf 0 h0).2 0 _ rfl
      have hsp : a'.spot = none := World.cell?_spot (a := a') (by simpa [Addr.add] using h00)
      obtain ⟨b, off, sp⟩ := a'
      replace hsp : sp = none := hsp
      subst hsp
      rw [Go.WideShapes.add_plain] at h00
      refine ⟨b, off, rfl, World.block_lt_of_cell? _ _ h00, fun j hj i v hv => ?_⟩
      have e : ((List.range len).map f).getD j ac0 = f j := by
        rw [List.getD, List.getElem?_map, List.getElem?_range hj]; rfl
      rw [e] at hv
      have := (hf j hj).2 i v hv
      rwa [Go.WideShapes.add_plain, ← Nat.add_assoc] at this
    · obtain ⟨i, hi', rfl⟩ := List.mem_map.1 hy
      exact (hf i (List.mem_range.1 hi')).1
theorem open_blk {fuel : Nat} {a : Option Addr} {len cap : Nat} {x : DataW H × List MemPlace} (h : DataW.trod enc Try.prog w base (fun _ => true) held fuel 27 [.slice a len cap] = some x) : ∃ L, BL w a len cap L ∧ ∀ y ∈ L, AnyI y := by
  obtain ⟨p, n, c, L, e, hb⟩ := open_bl h
  cases e
  exact ⟨L, hb, fun _ _ => trivial⟩
end
/-- What is known of an act's cells. -/
def ActIn (w : World) (c : Array Value) : Prop := ∃ y : Ac, c = (ac y).toArray ∧ BL w y.q y.m y.cq y.b ∧ y.k < 256
theorem open_act {H : Type} {enc : TypeId × Value → H} {w : World} {base b0 : Nat} {held : Bool} {r : Reach} {v : Value} {d : DataW H} {p : List MemPlace}
    (hv : Value.okWide Try.prog w r b0 33 v) (h : DataW.Trod enc Try.prog w base (fun _ => true) held 33 v d p) : ∃ c, v = .agg c ∧ ActIn w c := by
  obtain ⟨c, rfl, hsz⟩ := okWide_struct Try.underlying33 hv
  obtain ⟨fuel, hf⟩ := h
  obtain ⟨y, hb, hc⟩ := act_trod hf
  refine ⟨c, rfl, y, ?_, hb⟩
  have h2 : c.toList = ac y := hc
  rw [← h2]
end Go.Proofs.Ytafpbgogjnbfpaa
