/- A key that came in. -/
import Derived.Test.YtnmdplefedffnaaDoorKeyMath
import Derived.MakeChecks
import Derived.ChangeSame
import Derived.OpenShut
import Derived.Lib.SmallJoins
import Derived.Laws.ResultCell
import Derived.Laws.StructEq
namespace Go.Proofs.YtnmdplefedffnaaDoor
open Go.RowKit Go.ChangeShapes Go.WideShapes
set_option linter.unusedVariables false
set_option maxRecDepth 100000 in
theorem open_key {H : Type} {enc : TypeId × Value → H} {w : World} {base b0 : Nat} {spare : Nat → Bool} {held : Bool} {r : Reach} {v : Value} {d : DataW H} {p : List MemPlace}
    (hv : Value.okWide Tryd.prog w r b0 37 v) (h : DataW.Trod enc Tryd.prog w base spare held 37 v d p) : ∃ k : K, v = .agg #[.int .u8 k.1, .int .u8 k.2.1, .int .u8 k.2.2] ∧ Kok k := by
  obtain ⟨v0, v1, v2, y0, y1, y2, n, rfl, _, _, t0, t1, t2⟩ := Go.Joins.open_agg3 Tryd.underlying37 (by kernel_rfl) (by kernel_rfl) hv h
  obtain ⟨z0, hv0, _, wf0⟩ := DataW.trod_int Tryd.underlying5 t0
  obtain ⟨z1, hv1, _, wf1⟩ := DataW.trod_int Tryd.underlying5 t1
  obtain ⟨z2, hv2, _, wf2⟩ := DataW.trod_int Tryd.underlying5 t2
  simp at hv0 hv1 hv2
  subst hv0 hv1 hv2
  exact ⟨(z0, z1, z2), rfl, bounds_u8 wf0, bounds_u8 wf1, bounds_u8 wf2⟩
end Go.Proofs.YtnmdplefedffnaaDoor
