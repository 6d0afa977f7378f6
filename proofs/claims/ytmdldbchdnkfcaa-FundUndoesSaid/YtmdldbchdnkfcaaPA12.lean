import Derived.Test.YtmdldbchdnkfcaaPA05
import Derived.Test.YtmdldbchdnkfcaaPA11
import Derived.Lib.SmallJoins
namespace Go.Proofs.Ytmdldbchdnkfcaa
open Go.RowKit Go.ChangeShapes Go.WideShapes Go.Deep
set_option linter.unusedVariables false
set_option linter.unusedSimpArgs false
set_option maxRecDepth 10000
theorem i64_wf {z : Int} (h : (Lit.int .i64 z).wf = true) : I64 z := by
 have hb := bounds_i64 h
 unfold I64
 omega
theorem fieldCells6 : Try.prog.cellsOf 42 = 6 := by kernel_rfl
theorem fdeclCells6 : Try.prog.cellsOf 63 = 6 := by kernel_rfl
theorem fkeyCells3 : Try.prog.cellsOf 32 = 3 := by kernel_rfl
theorem flongCells1 : Try.prog.cellsOf 2 = 1 := by kernel_rfl
theorem fbyteCells1 : Try.prog.cellsOf 5 = 1 := by kernel_rfl
def FieldIn (w : World) (c : Array Value) : Prop := ∃ f : Fv, Fok f ∧ c = fcs f
abbrev ni (k : IntKind) (x : Int) : List Value := [.int k x]
section
variable {H : Type} {enc : TypeId × Value → H} {w : World} {base : Nat} {held : Bool}
theorem field_trod {fuel : Nat} {cs : List Value} {d : DataW H × List MemPlace} (h : DataW.trod enc Try.prog w base (fun _ => true) held fuel 42 cs = some d) (hlen : cs.length = 6) : ∃ f : Fv, Fok f ∧ cs = (fcs f).toList := by
 match cs, hlen with
 | [x0, x1, x2, x3, x4, x5], _ =>
  obtain ⟨xs, n, _, _, _, hxl, hg⟩ := DataW.trod_struct Try.underlying42 h
  have h6 : xs.length = 6 := hxl
  have t0 := hg 0 _ rfl
  have t1 := hg 1 _ rfl
  have t2 := hg 2 _ rfl
  have t3 := hg 3 _ rfl
  have t4 := hg 4 _ rfl
  have t5 := hg 5 _ rfl
  rw [List.getElem?_eq_getElem (by omega)] at t0 t1 t2 t3 t4 t5
  have e0 : DataW.trod enc Try.prog w base (fun _ => true) held n 2 [x0] = some (xs[0]'(by omega)) := t0
  have e1 : DataW.trod enc Try.prog w base (fun _ => true) held n 2 [x1] = some (xs[1]'(by omega)) := t1
  have e2 : DataW.trod enc Try.prog w base (fun _ => true) held n 2 [x2] = some (xs[2]'(by omega)) := t2
  have e3 : DataW.trod enc Try.prog w base (fun _ => true) held n 2 [x3] = some (xs[3]'(by omega)) := t3
  have e4 : DataW.trod enc Try.prog w base (fun _ => true) held n 2 [x4] = some (xs[4]'(by omega)) := t4
  have e5 : DataW.trod enc Try.prog w base (fun _ => true) held n 2 [x5] = some (xs[5]'(by omega)) := t5
  obtain ⟨z0, hv0, _, wf0⟩ := DataW.trod_int Try.underlying2 e0
  obtain ⟨z1, hv1, _, wf1⟩ := DataW.trod_int Try.underlying2 e1
  obtain ⟨z2, hv2, _, wf2⟩ := DataW.trod_int Try.underlying2 e2
  obtain ⟨z3, hv3, _, wf3⟩ := DataW.trod_int Try.underlying2 e3
  obtain ⟨z4, hv4, _, wf4⟩ := DataW.trod_int Try.underlying2 e4
  obtain ⟨z5, hv5, _, wf5⟩ := DataW.trod_int Try.underlying2 e5
  simp at hv0 hv1 hv2 hv3 hv4 hv5
  subst hv0 hv1 hv2 hv3 hv4 hv5
  exact ⟨⟨z0, z1, z2, z3, z4, z5⟩, ⟨i64_wf wf0, i64_wf wf1, i64_wf wf2, i64_wf wf3, i64_wf wf4, i64_wf wf5⟩, rfl⟩
end
theorem open_field {H : Type} {enc : TypeId × Value → H} {w : World} {base b0 : Nat} {held : Bool} {r : Reach} {v : Value} {d : DataW H} {p : List MemPlace}
 (hv : Value.okWide Try.prog w r b0 42 v) (h : DataW.Trod enc Try.prog w base (fun _ => true) held 42 v d p) : ∃ c, v = .agg c ∧ FieldIn w c := by
 obtain ⟨c, rfl, hsz⟩ := okWide_struct Try.underlying42 hv
 obtain ⟨fuel, hf⟩ := h
 rw [fieldCells6] at hsz
 obtain ⟨m, hok, hcs⟩ := field_trod hf (by simpa [Value.cells] using hsz)
 exact ⟨c, rfl, m, hok, Array.ext' hcs⟩
end Go.Proofs.Ytmdldbchdnkfcaa
