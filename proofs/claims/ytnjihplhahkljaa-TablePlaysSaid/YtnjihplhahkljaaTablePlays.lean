/-
  TablePlays answers true of any acts and any key, and writes nothing that was there. No condition.
PLAIN4
-/
import Derived.Test.YtnjihplhahkljaaRows
import Derived.Test.YtnjihplhahkljaaTabOpen
import Derived.WalkKit
import Derived.ProofKit
import Derived.OpenShut
import Derived.ShutString
import Derived.ChangeOld
import Derived.Below
namespace Go.Proofs.Ytnjihplhahkljaa.tablePlays
open Go.ChangeShapes Go.WideShapes Go.ChangeAt Go.RowKit
open Go.ChangeMaps (open_string shut_string)
set_option linter.unusedVariables false

theorem own : ownKnob Try.prog.godebug = none := by kernel_rfl
theorem laidOut : laidOutB Try.prog = true := by kernel_rfl

set_option maxHeartbeats 1000000 in
set_option maxRecDepth 100000 in
theorem walk (a0 : Option Addr) (len0 cap0 : Nat) (L0 : List Ac) (k1 : K) (w : World) (w0 : AL w a0 len0 cap0 L0 ∧ ∀ y ∈ L0, Aok y) (w1 : Kok k1) :
    Calls Try.prog 3 #[.slice a0 len0 cap0, .agg #[.int .u8 k1.1, .int .u8 k1.2.1, .int .u8 k1.2.2]] w fun e w' => e = .returned (.bool true) ∧ Below w.heap.size w w' := by
  obtain ⟨hA, hok⟩ := w0
  have hb0 : Below w.heap.size w (w.alloc (.cells #[.int .u8 k1.1, .int .u8 k1.2.1, .int .u8 k1.2.2] 24)) := (Below.refl _ _).alloc (Nat.le_refl _) _
  have hmd := made_any _ a0 len0 cap0 L0 (hA.later hb0) hok
  have HX0 := Lib.hid (alloc_block w (.cells #[.int .u8 k1.1, .int .u8 k1.2.1, .int .u8 k1.2.2] 24))
  have HB0 := Lib.hid hb0
  have HK := Lib.hid w1
  clear hA hok hb0 w1
  go_enter Try.func3, Try.ntmps3
  go_wp2_with fail
  generalize w.alloc (.cells #[.int .u8 k1.1, .int .u8 k1.2.1, .int .u8 k1.2.2] 24) = W0 at *
  refine hmd.mono ?_
  rintro e W1 ⟨mb, M, rp, rcap, rfl, hp, hm60, hb1⟩
  have HX1 := Lib.hid (block_later HX0.out hb1)
  have HB1 := Lib.hid (HB0.out.trans (hb1.mono HB0.out.size))
  have hget := get_any k1 HK.out W1 W0.heap.size mb M hp.tab
  have HT1 := Lib.hid hp.tab
  have HR1 := Lib.hid hp.row
  have HM60 := Lib.hid hm60
  have x0 := block_cell (j := 0) HX1.out rfl
  have x1 := block_cell (j := 1) HX1.out rfl
  have x2 := block_cell (j := 2) HX1.out rfl
  clear hmd hp hb1 hm60
  go_wp2_with fail
  refine hget.mono ?_
  rintro e W2 ⟨rfl, hb2⟩
  have HX2 := Lib.hid (block_later HX1.out hb2)
  have HB2 := Lib.hid (HB1.out.trans (hb2.mono HB1.out.size))
  have HT2 := Lib.hid (HT1.out.later hb2)
  have HR2 := Lib.hid (HR1.out.later hb2)
  have hrg := rget_any rp M.length rcap M k1 W2 HR2.out (by have := HM60.out; omega)
  clear hget hb2 x0 x1 x2
  have x0 := block_cell (j := 0) HX2.out rfl
  have x1 := block_cell (j := 1) HX2.out rfl
  have x2 := block_cell (j := 2) HX2.out rfl
  go_wp2_with fail
  refine hrg.mono ?_
  rintro e W3 ⟨rfl, hb3⟩
  have HB3 := Lib.hid (HB2.out.trans (hb3.mono HB2.out.size))
  have hsm := same_true W3 W0.heap.size mb M rp M.length rcap (HT2.out.later hb3) (HR2.out.later hb3) (by have := HM60.out; omega)
  clear hrg hb3 x0 x1 x2
  generalize (getM M k1).getD 0 = g1 at *
  generalize (getM M k1).isSome = g2 at *
  go_wp2_with fail
  refine hsm.mono ?_
  rintro e W4 ⟨rfl, hb4⟩
  have HB4 := Lib.hid (HB3.out.trans (hb4.mono HB3.out.size))
  clear hsm hb4
  go_wp2_with fail
  refine (tab_works _).mono ?_
  rintro e W5 ⟨rfl, hb5⟩
  have HB5 := Lib.hid (HB4.out.trans (hb5.mono HB4.out.size))
  clear hb5
  go_wp2_with fail
  go_ret
  exact ⟨rfl, HB5.out⟩

set_option maxRecDepth 100000 in
theorem lifted (os : Os) (started : os.Started) (H : Type) (enc : TypeId × Value → H) :
    ReturnsInHanded {} Try.checked os 3 .any (Rows.tablePlaysSpec.pre6 enc Try.prog Try.f3 Rows.tablePlaysRow.domain false) (Rows.tablePlaysSpec.post enc Try.prog Try.f3 false true false false) := by
  refine returnsInHanded_of_change (C := Try.checked) own started (by kernel_rfl) Try.func3
    (ChangeSpec.witness6 (enc := enc) (C := Try.checked) false ⟨#[], #[.slice none 0 0, .agg #[.int .u8 0, .int .u8 0, .int .u8 0]], []⟩ 8 (by kernel_rfl) (by kernel_rfl) (by kernel_rfl) (by kernel_rfl)) ?_
  intro W base args ds gs before hval0 hW hcnd _
  have hval : ∀ (j : Nat) t v, Try.f3.params[j]? = some t → args[j]? = some v → Value.okWide Try.prog W .any base t v := hval0
  have hW' := hW
  obtain ⟨p, q, hA0, hV, rfl, hfz, hnd⟩ := hW
  have hA : DataW.TrodAll enc Try.prog W 0 (fun _ => true) true Try.f3.params.toList args.toList ds p := hA0
  rw [Try.params3] at hA hval
  obtain ⟨v0, vs0, d0, ds0, p0, q0, hargs, rfl, rfl, h0, r0⟩ := trodAll_cons hA
  obtain ⟨v1, vs1, d1, ds1, p1, q1, rfl, rfl, rfl, h1, r1⟩ := trodAll_cons r0
  obtain ⟨rfl, rfl, rfl⟩ := trodAll_nil r1
  obtain rfl : args = #[v0, v1] := by cases args; simp_all
  obtain ⟨rfl, rfl⟩ := trodVars_none hV
  obtain ⟨a0, len0, cap0, rfl⟩ := okWide_slice Try.underlying22 (hval 0 22 v0 rfl rfl)
  have k0 := h0
  have lt0 : ∀ x ∈ p0, x.block < W.heap.size := by obtain ⟨m, hm⟩ := k0; exact DataW.trod_lt m _ _ _ hm
  obtain ⟨L0, w0⟩ : ∃ L, AL W a0 len0 cap0 L ∧ ∀ y ∈ L, Aok y := by
    obtain ⟨fuel, hf⟩ := h0
    exact open_acts hf
  have k1 := h1
  have lt1 : ∀ x ∈ p1, x.block < W.heap.size := by obtain ⟨m, hm⟩ := k1; exact DataW.trod_lt m _ _ _ hm
  obtain ⟨x1, rfl, w1⟩ := open_key (hval 1 24 v1 rfl rfl) h1
  clear hA0 hval0
  refine (walk a0 len0 cap0 L0 x1 W w0 w1).mono fun e W' ⟨he, bel⟩ => ?_
  subst he
  exact ⟨_, rfl, _, _, _, [], _, [], hW', trodAll_mk1 (shut_bool Try.underlying4 _), (trodAll_cons_mk (Below.trod laidOut (by kernel_rfl) (of_decide_eq_true (by kernel_rfl)) k0 bel lt0) (trodAll_cons_mk (Below.trod laidOut (by kernel_rfl) (of_decide_eq_true (by kernel_rfl)) k1 bel lt1) trodAll_mk0)), rfl, bel.frame _, fun h => by cases h⟩

theorem over : Rows.tablePlaysRow.holds Try.pinned (OpenSpec.ofChange Rows.tablePlaysSpec) :=
  OpenClaim.holds_of_wide 3 Try.f3 rfl rfl rfl rfl rfl rfl rfl ⟨rfl, rfl, rfl, rfl, rfl⟩ rfl rfl rfl rfl rfl (by kernel_rfl) Try.func3 (by kernel_rfl)
    (of_decide_eq_true (by kernel_rfl)) (by unfold Func.isWrapper; first | (rw [if_pos (by decide +kernel)]; kernel_rfl) | (rw [if_neg (by decide +kernel)]; exact ⟨rfl, rfl⟩))
    (fun os started H enc _ => lifted os started H enc)

theorem proved : Rows.TablePlaysSaid := over
#print axioms proved
end Go.Proofs.Ytnjihplhahkljaa.tablePlays
