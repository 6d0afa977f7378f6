/- A master that came in. -/
import Derived.Test.YtppmokkbepihhaaDoorMasterMath
import Derived.Deep.Slices
import Derived.Deep.Fields
import Derived.Deep.Strs
import Derived.ChangeSame
import Derived.Lib.SmallJoins
import Derived.OpenShut
namespace Go.Proofs.YtppmokkbepihhaaDoor
open Go.RowKit Go.ChangeShapes Go.WideShapes Go.Deep
set_option linter.unusedVariables false
set_option maxRecDepth 10000

/-- What is known of a master's cells. -/
def MasterIn (w : World) (c : Array Value) : Prop := ∃ m : Mv, m.ok ∧ c = #[.int .u64 ((m.g : Nat) : Int), .int .u8 ((m.a : Nat) : Int), .int .i64 (sgn m.r), .int .i64 (sgn m.t), .int .i64 (sgn m.s)]
theorem wf_u64 {z : Int} (h : (Lit.int .u64 z).wf = true) : ∃ n : Nat, n < 18446744073709551616 ∧ z = n := by
  have hb : 0 ≤ z ∧ z ≤ 18446744073709551615 := by simpa [Lit.wf, IntKind.min, IntKind.max, IntKind.bits, IntKind.signed] using h
  exact ⟨z.toNat, by omega, by omega⟩
theorem wf_u8 {z : Int} (h : (Lit.int .u8 z).wf = true) : ∃ n : Nat, n < 256 ∧ z = n := by
  have hb := bounds_u8 h
  exact ⟨z.toNat, by omega, by omega⟩
theorem wf_i64 {z : Int} (h : (Lit.int .i64 z).wf = true) : ∃ n : Nat, n < 18446744073709551616 ∧ z = sgn n := by
  have hb := bounds_i64 h
  exact ⟨mword z, mword_lt z, (sgn_mword (by omega)).symm⟩
section
variable {H : Type} {enc : TypeId × Value → H} {w : World} {base : Nat} {held : Bool}
theorem master_trod {fuel : Nat} {cs : List Value} {d : DataW H × List MemPlace} (h : DataW.trod enc Tryd.prog w base (fun _ => true) held fuel 24 cs = some d) (hlen : cs.length = 5) : ∃ m : Mv, m.ok ∧ cs = [.int .u64 ((m.g : Nat) : Int), .int .u8 ((m.a : Nat) : Int), .int .i64 (sgn m.r), .int .i64 (sgn m.t), .int .i64 (sgn m.s)] := by
  match cs, hlen with
  | [x, y, z, u, v], _ =>
    obtain ⟨xs, n, _, _, _, hxl, hg⟩ := DataW.trod_struct Tryd.underlying24 h
    have h5 : xs.length = 5 := hxl
    have t0 := hg 0 _ rfl
    have t1 := hg 1 _ rfl
    have t2 := hg 2 _ rfl
    have t3 := hg 3 _ rfl
    have t4 := hg 4 _ rfl
    rw [List.getElem?_eq_getElem (by omega)] at t0 t1 t2 t3 t4
    have e0 : DataW.trod enc Tryd.prog w base (fun _ => true) held n 22 [x] = some (xs[0]'(by omega)) := t0
    have e1 : DataW.trod enc Tryd.prog w base (fun _ => true) held n 5 [y] = some (xs[1]'(by omega)) := t1
    have e2 : DataW.trod enc Tryd.prog w base (fun _ => true) held n 2 [z] = some (xs[2]'(by omega)) := t2
    have e3 : DataW.trod enc Tryd.prog w base (fun _ => true) held n 2 [u] = some (xs[3]'(by omega)) := t3
    have e4 : DataW.trod enc Tryd.prog w base (fun _ => true) held n 2 [v] = some (xs[4]'(by omega)) := t4
    obtain ⟨z0, hv0, _, wf0⟩ := DataW.trod_int Tryd.underlying22 e0
    obtain ⟨z1, hv1, _, wf1⟩ := DataW.trod_int Tryd.underlying5 e1
    obtain ⟨z2, hv2, _, wf2⟩ := DataW.trod_int Tryd.underlying2 e2
    obtain ⟨z3, hv3, _, wf3⟩ := DataW.trod_int Tryd.underlying2 e3
    obtain ⟨z4, hv4, _, wf4⟩ := DataW.trod_int Tryd.underlying2 e4
    simp at hv0 hv1 hv2 hv3 hv4
    subst hv0 hv1 hv2 hv3 hv4
    obtain ⟨g, hg0, rfl⟩ := wf_u64 wf0
    obtain ⟨a, ha0, rfl⟩ := wf_u8 wf1
    obtain ⟨r, hr0, rfl⟩ := wf_i64 wf2
    obtain ⟨t, ht0, rfl⟩ := wf_i64 wf3
    obtain ⟨s, hs0, rfl⟩ := wf_i64 wf4
    exact ⟨⟨g, a, r, t, s⟩, ⟨hg0, ha0, hr0, ht0, hs0⟩, rfl⟩
end
theorem masterCells5 : Tryd.prog.cellsOf 24 = 5 := by kernel_rfl
theorem open_master {H : Type} {enc : TypeId × Value → H} {w : World} {base b0 : Nat} {held : Bool} {r : Reach} {v : Value} {d : DataW H} {p : List MemPlace}
    (hv : Value.okWide Tryd.prog w r b0 24 v) (h : DataW.Trod enc Tryd.prog w base (fun _ => true) held 24 v d p) : ∃ c, v = .agg c ∧ MasterIn w c := by
  obtain ⟨c, rfl, hsz⟩ := okWide_struct Tryd.underlying24 hv
  obtain ⟨fuel, hf⟩ := h
  rw [masterCells5] at hsz
  obtain ⟨m, hok, hcs⟩ := master_trod hf (by simpa [Value.cells] using hsz)
  exact ⟨c, rfl, m, hok, Array.ext' hcs⟩
end Go.Proofs.YtppmokkbepihhaaDoor
