/- Lists of bytes that came in, and a turn. -/
import Derived.Test.YtmadneedeheekaaDoorFrameFramed
import Derived.Deep.Slices
import Derived.Deep.Fields
import Derived.ChangeSame
import Derived.Lib.SmallJoins
import Derived.OpenShut
import Derived.Deep.Strs
namespace Go.Proofs.YtmadneedeheekaaDoor
open Go.RowKit Go.ChangeShapes Go.WideShapes Go.Deep
set_option linter.unusedVariables false
set_option maxRecDepth 10000

theorem rowCells : Tryd.prog.cellsOf 22 = 1 := by kernel_rfl
abbrev ListN := List Nat
/-- A list of bytes that came in; nothing is asked of its parts. -/
def LSx (w : World) (a : Option Addr) (len cap : Nat) (Ls : List (List Nat)) : Prop := ∃ H, LS w a len cap H Ls
def AnyL (_ : List Nat) : Prop := True
section
variable {H : Type} {enc : TypeId × Value → H} {w : World} {base : Nat} {held : Bool}
theorem open_slb {fuel : Nat} {v : Value} {d : DataW H × List MemPlace} (h : DataW.trod enc Tryd.prog w base (fun _ => true) held fuel 22 [v] = some d) : ∃ p n c L, v = .slice p n c ∧ Sl w p n c L ∧ c ≤ maxLen := by
  rcases open_ints Tryd.underlying22 Tryd.underlying5 (by kernel_rfl) h with ⟨hcs, _⟩ | ⟨x, l, c, zs, hcs, _, hl, hm, hz, _, hcell, hwz⟩
  · simp at hcs
    subst hcs
    exact ⟨none, 0, 0, [], rfl, Sl.none, Nat.zero_le _⟩
  · simp at hcs
    subst hcs
    rw [if_pos rfl] at hz
    exact ⟨_, _, _, _, rfl, sl_first l c (by omega) hl hcell hwz, hm⟩
theorem open_lists {fuel : Nat} {a : Option Addr} {len cap : Nat} {x : DataW H × List MemPlace}
    (h : DataW.trod enc Tryd.prog w base (fun _ => true) held fuel 35 [.slice a len cap] = some x) : ∃ L, LSx w a len cap L ∧ ∀ y ∈ L, AnyL y := by
  rcases open_slice Tryd.underlying35 h with ⟨hcs, _⟩ | ⟨a', l, c, m, n, D, Pl, hcs, hb, hl, hm, hmm, hx, hi⟩
  · simp at hcs
    obtain ⟨rfl, rfl, rfl⟩ := hcs
    exact ⟨[], ⟨[], SlG.empty w, rfl, fun j hj => by omega⟩, fun y hy => trivial⟩
  · simp at hcs
    obtain ⟨rfl, rfl, rfl⟩ := hcs
    rw [if_pos rfl] at hmm
    subst hmm
    have hall : ∀ i, i < len → ∃ y : Hd × List Nat, (Sl w y.1.1 y.1.2.1 y.1.2.2 y.2 ∧ y.1.2.2 ≤ maxLen) ∧ w.cell? (a'.add i) = some (.slice y.1.1 y.1.2.1 y.1.2.2) := by
      intro i hil
      obtain ⟨cs', hc, ht⟩ := hi i (by omega)
      rw [rowCells] at hc
      obtain ⟨_, hcl, hat⟩ := World.cells?_some hc
      obtain ⟨v, rfl⟩ : ∃ v, cs' = [v] := by
        match cs', hcl with
        | [v], _ => exact ⟨v, rfl⟩
      obtain ⟨p, n, c, L, rfl, hs, hcm⟩ := open_slb ht
      refine ⟨((p, n, c), L), ⟨hs, hcm⟩, ?_⟩
      have := hat 0 (by omega)
      rw [Nat.mul_one] at this
      rw [show a'.add i = (a'.add i).add 0 by unfold Addr.add; split <;> rfl, this]
      rfl
    obtain ⟨f, hf⟩ : ∃ f : Nat → Hd × List Nat, ∀ i, i < len → (Sl w (f i).1.1 (f i).1.2.1 (f i).1.2.2 (f i).2 ∧ (f i).1.2.2 ≤ maxLen) ∧ w.cell? (a'.add i) = some (.slice (f i).1.1 (f i).1.2.1 (f i).1.2.2) :=
      ⟨fun i => if h : i < len then Classical.choose (hall i h) else (hd0, []), fun i h => by dsimp only; rw [dif_pos h]; exact Classical.choose_spec (hall i h)⟩
    have e1 : ∀ j, j < len → ((List.range len).map fun i => (f i).1).getD j hd0 = (f j).1 := fun j hj => by
      rw [List.getD, List.getElem?_map, List.getElem?_range hj]; rfl
    have e2 : ∀ j, j < len → ((List.range len).map fun i => (f i).2).getD j [] = (f j).2 := fun j hj => by
      rw [List.getD, List.getElem?_map, List.getElem?_range hj]; rfl
    refine ⟨(List.range len).map fun i => (f i).2, ⟨(List.range len).map fun i => (f i).1, ⟨by simp, hl, hm, (fun h => by cases h), fun h0 => ?_⟩, by simp, fun j hj => ?_⟩, fun y hy => trivial⟩
    · have h00 := (hf 0 h0).2
      have hsp : a'.spot = none := World.cell?_spot (a := a') (by simpa [Addr.add] using h00)
      obtain ⟨b, off, sp⟩ := a'
      replace hsp : sp = none := hsp
      subst hsp
      rw [Go.WideShapes.add_plain] at h00
      refine ⟨b, off, rfl, World.block_lt_of_cell? _ _ h00, fun j hj i v hv => ?_⟩
      rw [e1 j hj] at hv
      match i, hv with
      | 0, hv =>
        simp only [eh, List.getElem?_cons_zero, Option.some.injEq] at hv
        subst hv
        have := (hf j hj).2
        rw [Go.WideShapes.add_plain] at this
        rwa [Nat.mul_one, Nat.add_zero]
    · rw [e1 j hj, e2 j hj]
      exact (hf j hj).1
end
/-- What is known of a turn's cells. -/
def TurnIn (w : World) (c : Array Value) : Prop := ∃ x y z : Nat, c = #[.int .u8 ((x : Nat) : Int), .int .u16 ((y : Nat) : Int), .int .u32 ((z : Nat) : Int)] ∧ x < 256 ∧ y < 65536 ∧ z < 4294967296
theorem cells8 : Tryd.prog.cellsOf 5 = 1 := by kernel_rfl
theorem cells16 : Tryd.prog.cellsOf 42 = 1 := by kernel_rfl
theorem cells32 : Tryd.prog.cellsOf 47 = 1 := by kernel_rfl
theorem turnCells : Tryd.prog.cellsOf 49 = 3 := by kernel_rfl
theorem open_turn {H : Type} {enc : TypeId × Value → H} {w : World} {base b0 : Nat} {held : Bool} {r : Reach} {v : Value} {d : DataW H} {p : List MemPlace}
    (hv : Value.okWide Tryd.prog w r b0 49 v) (h : DataW.Trod enc Tryd.prog w base (fun _ => true) held 49 v d p) : ∃ c, v = .agg c ∧ TurnIn w c := by
  obtain ⟨c, rfl, hsz⟩ := okWide_struct Tryd.underlying49 hv
  obtain ⟨fuel, hf⟩ := h
  obtain ⟨_, _, _, _, hlen, _, _⟩ := DataW.trod_struct Tryd.underlying49 hf
  rw [turnCells] at hlen
  obtain ⟨y0, y1, y2, n, _, _, t0, t1, t2⟩ := trod_struct3 Tryd.underlying49 hf
  obtain ⟨v0, v1, v2, hcs⟩ : ∃ v0 v1 v2, c.toList = [v0, v1, v2] := by
    match h : c.toList, hlen with
    | [a, b, c], _ => exact ⟨a, b, c, rfl⟩
  have hcells : (Value.agg c).cells.toList = c.toList := rfl
  rw [hcells, hcs] at t0 t1 t2
  simp only [cells8, cells16, cells32, List.drop_zero, List.drop_succ_cons, List.take_succ_cons, List.take_zero] at t0 t1 t2
  obtain ⟨z0, hv0, hw0⟩ := DataW.trod_int Tryd.underlying5 t0
  obtain ⟨z1, hv1, hw1⟩ := DataW.trod_int Tryd.underlying42 t1
  obtain ⟨z2, hv2, hw2⟩ := DataW.trod_int Tryd.underlying47 t2
  simp at hv0 hv1 hv2
  subst hv0 hv1 hv2
  have f0 : (Lit.int .u8 z0).wf = true := by first | exact hw0 | exact hw0.2 | exact hw0.1
  have f1 : (Lit.int .u16 z1).wf = true := by first | exact hw1 | exact hw1.2 | exact hw1.1
  have f2 : (Lit.int .u32 z2).wf = true := by first | exact hw2 | exact hw2.2 | exact hw2.1
  obtain ⟨g0, g1⟩ := bounds_u8 f0
  obtain ⟨g2, g3⟩ := bounds_u16 f1
  obtain ⟨g4, g5⟩ := bounds_u32 f2
  refine ⟨c, rfl, z0.toNat, z1.toNat, z2.toNat, ?_, by omega, by omega, by omega⟩
  rw [Int.toNat_of_nonneg g0, Int.toNat_of_nonneg g2, Int.toNat_of_nonneg g4]
  apply Array.ext'
  exact hcs
end Go.Proofs.YtmadneedeheekaaDoor
