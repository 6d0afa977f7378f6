/- The library's variables lie where the row's condition holds, and where the program's own start lays them. -/
import Derived.Test.YthkfijgdopjjjaaDoorKeyWorks
import Derived.MakeChecks
import Derived.ChangeSame
import Derived.OpenShut
namespace Go.Proofs.YthkfijgdopjjjaaDoor
open Go.RowKit Go.ChangeShapes Go.WideShapes
set_option linter.unusedVariables false

theorem star_name : "*" ++ "errors.errorString" = "*errors.errorString" := by decide
theorem errPtr (u : TypeId) (h : Tryd.prog.typeName? 3 u = some "*errors.errorString") : u = 114 :=
  typeName_ptr_named (nm := "errors.errorString") (by rw [star_name]; kernel_rfl) (by kernel_rfl) (by decide) u (by rw [star_name]; exact h)
theorem of_laid {W : World} (h : laidMetH Tryd.prog Rows.keyGoodRow.laid W) : Vars W := by
  rw [MakeChecks.laidMetH_plain _ _ _ (by kernel_rfl)] at h
  have h3 := h.tail.tail
  have hT : Lib.TabIs Tryd.prog W "internal/strconv.uint64pow10" .u64 Lib.pow10Tab := Lib.tabIs_of_head gPow tPow Tryd.underlying110 Tryd.underlying63 (by kernel_rfl) (by kernel_rfl) h3
  have h4 := h3.tail
  obtain ⟨a1, s1, hr, _⟩ := laid_sentinel (tp := 114) (te := 116) (ts := 9) h4 gRng tRng Tryd.underlying65 errPtr Tryd.underlying114 Tryd.underlying116 rfl rfl Tryd.underlying9 (by kernel_rfl) (by kernel_rfl)
  have h5 := h4.tail
  obtain ⟨a2, s2, hs, _⟩ := laid_sentinel (tp := 114) (te := 116) (ts := 9) h5 gSyn tSyn Tryd.underlying65 errPtr Tryd.underlying114 Tryd.underlying116 rfl rfl Tryd.underlying9 (by kernel_rfl) (by kernel_rfl)
  exact ⟨hT, ⟨_, _, hs⟩, ⟨_, _, hr⟩⟩
/-- The world that the program's own start lays meets the condition. -/
theorem door_met (os : Os) (args : Array Value) : laidMetH Tryd.prog Rows.keyGoodRow.laid ((World.doorLaid Tryd.prog 400 os).forCall (fun _ _ => 0) ⟨#[], args, []⟩).memory :=
  laidMetH_of_parts3 (fuel := 8) (laidMet_of_run' 8 (by kernel_rfl) (by kernel_rfl)) (by kernel_rfl) (by kernel_rfl)


set_option maxRecDepth 100000 in
theorem open_key {H : Type} {enc : TypeId × Value → H} {w : World} {base b0 : Nat} {spare : Nat → Bool} {held : Bool} {r : Reach} {v : Value} {d : DataW H} {p : List MemPlace}
    (hv : Value.okWide Tryd.prog w r b0 23 v) (h : DataW.Trod enc Tryd.prog w base spare held 23 v d p) : ∃ k : K, v = .agg #[.int .u8 k.1, .int .u8 k.2.1, .int .u8 k.2.2] ∧ Kok k := by
  obtain ⟨v0, v1, v2, y0, y1, y2, n, rfl, _, _, t0, t1, t2⟩ := Go.Joins.open_agg3 Tryd.underlying23 (by kernel_rfl) (by kernel_rfl) hv h
  obtain ⟨z0, hv0, _, wf0⟩ := DataW.trod_int Tryd.underlying5 t0
  obtain ⟨z1, hv1, _, wf1⟩ := DataW.trod_int Tryd.underlying5 t1
  obtain ⟨z2, hv2, _, wf2⟩ := DataW.trod_int Tryd.underlying5 t2
  simp at hv0 hv1 hv2
  subst hv0 hv1 hv2
  exact ⟨(z0, z1, z2), rfl, bounds_u8 wf0, bounds_u8 wf1, bounds_u8 wf2⟩
end Go.Proofs.YthkfijgdopjjjaaDoor
