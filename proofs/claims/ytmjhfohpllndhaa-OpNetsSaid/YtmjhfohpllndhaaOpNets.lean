/-
  OpNets answers true of any additions, and writes nothing that was there. No condition.
PLAIN4
-/
import Derived.Test.YtmjhfohpllndhaaRows
import Derived.Test.YtmjhfohpllndhaaOpArgs
import Derived.WalkKit
import Derived.ProofKit
import Derived.OpenShut
import Derived.ShutString
import Derived.ChangeOld
import Derived.Below
namespace Go.Proofs.Ytmjhfohpllndhaa.opNets
open Go.ChangeShapes Go.WideShapes Go.ChangeAt Go.RowKit
open Go.ChangeMaps (open_string shut_string)
set_option linter.unusedVariables false

theorem own : ownKnob Try.prog.godebug = none := by kernel_rfl
theorem laidOut : laidOutB Try.prog = true := by kernel_rfl

set_option maxHeartbeats 1000000 in
set_option maxRecDepth 100000 in
theorem walk (a0 : Option Addr) (len0 cap0 : Nat) (L0 : List O) (w : World) (w0 : OL w a0 len0 cap0 L0 ∧ ∀ y ∈ L0, Ook y) :
    Calls Try.prog 3 #[.slice a0 len0 cap0] w fun e w' => e = .returned (.bool true) ∧ Below w.heap.size w w' := by
  obtain ⟨hA, hok⟩ := w0
  obtain ⟨k0, hk0, hl0, hb0⟩ : ∃ k : Nat, min (len0 : Int) 60 = (k : Int) ∧ k ≤ len0 ∧ k ≤ 60 := min_of len0 60
  have hL := hA.take k0 hl0
  have hkT := take_ok hok k0
  have hcap := hL.cap
  have hmax := hL.max
  unfold maxLen at hmax
  have hlc := hA.cap
  have hnl := netV_len (L0.take k0)
  have hgl := negV_len (L0.take k0)
  rw [hL.len] at hnl hgl
  generalize L0.take k0 = L at *
  have HL := Lib.hid hL
  have HOK := Lib.hid hkT
  clear hA hok hL hkT
  generalize hm1 : (netV L).length = m1 at *
  generalize hm2 : (negV L).length = m2 at *
  have hn1 := net_o a0 k0 cap0 L w HL.out HOK.out (by omega)
  go_enter Try.func3, Try.ntmps3
  go_wp2_with fail
  refine hn1.mono ?_
  rintro e w1 ⟨p1, c1, rfl, hs1, hb1, _⟩
  rw [hm1] at hs1
  rw [hm1]
  have hn2 := refnet_o a0 k0 cap0 L w1 (HL.out.later hb1) HOK.out (by omega)
  have HS1 := Lib.hid hs1
  have HB1 := Lib.hid hb1
  clear hn1 hs1 hb1
  go_wp2_with fail
  refine hn2.mono ?_
  rintro e w2 ⟨p2, c2, rfl, hs2, hb2, _⟩
  rw [hm1] at hs2
  rw [hm1]
  have HB2 := Lib.hid (HB1.out.trans (hb2.mono HB1.out.size))
  have HS12 := Lib.hid (HS1.out.later hb2)
  have HS2 := Lib.hid hs2
  have hn3 := neg_o a0 k0 cap0 L w2 (HL.out.later HB2.out) HOK.out (by omega)
  clear hn2 hs2 hb2 HS1
  go_wp2_with fail
  refine hn3.mono ?_
  rintro e w3 ⟨p3, c3, rfl, hs3, hb3, _⟩
  rw [hm2] at hs3
  rw [hm2]
  have HB3 := Lib.hid (HB2.out.trans (hb3.mono HB2.out.size))
  have HS13 := Lib.hid (HS12.out.later hb3)
  have HS23 := Lib.hid (HS2.out.later hb3)
  have HS3 := Lib.hid hs3
  have hn4 := refneg_o a0 k0 cap0 L w3 (HL.out.later HB3.out) HOK.out (by omega)
  clear hn3 hs3 hb3 HS12 HS2
  go_wp2_with fail
  refine hn4.mono ?_
  rintro e w4 ⟨p4, c4, rfl, hs4, hb4, _⟩
  rw [hm2] at hs4
  rw [hm2]
  have HB4 := Lib.hid (HB3.out.trans (hb4.mono HB3.out.size))
  have hq1 := rsame_o p1 p2 m1 m1 c1 c2 (netV L) (netV L) w4 (HS13.out.later hb4) (HS23.out.later hb4) (by omega) (by omega)
  have HQ2 := Lib.hid fun w5 (hb5 : Below w4.heap.size w4 w5) => rsame_o p3 p4 m2 m2 c3 c4 (negV L) (negV L) w5 ((HS3.out.later hb4).later hb5) (hs4.later hb5) (by omega) (by omega)
  rw [decide_eq_true (rfl : netV L = netV L)] at hq1
  rw [decide_eq_true (rfl : negV L = negV L)] at HQ2
  generalize netB L = ok1 at *
  generalize negB L = ok2 at *
  clear hn4 hs4 hb4 HS13 HS23 HS3
  go_wp2_with fail
  refine hq1.mono ?_
  rintro e w5 ⟨rfl, hb5⟩
  have HB5 := Lib.hid (HB4.out.trans (hb5.mono HB4.out.size))
  have hq2 := HQ2.out w5 hb5
  clear hq1 hb5 HQ2
  go_wp2_with fail
  refine hq2.mono ?_
  rintro e w6 ⟨rfl, hb6⟩
  have HB6 := Lib.hid (HB5.out.trans (hb6.mono HB5.out.size))
  clear hq2 hb6
  go_wp2_with fail
  refine (op_works _).mono ?_
  rintro e w7 ⟨rfl, hb7⟩
  have HB7 := Lib.hid (HB6.out.trans (hb7.mono HB6.out.size))
  clear hb7
  go_wp2_with fail
  go_ret
  exact ⟨rfl, HB7.out⟩

set_option maxRecDepth 100000 in
theorem lifted (os : Os) (started : os.Started) (H : Type) (enc : TypeId × Value → H) :
    ReturnsInHanded {} Try.checked os 3 .any (Rows.opNetsSpec.pre6 enc Try.prog Try.f3 Rows.opNetsRow.domain false) (Rows.opNetsSpec.post enc Try.prog Try.f3 false true false false) := by
  refine returnsInHanded_of_change (C := Try.checked) own started (by kernel_rfl) Try.func3
    (ChangeSpec.witness6 (enc := enc) (C := Try.checked) false ⟨#[], #[.slice none 0 0], []⟩ 8 (by kernel_rfl) (by kernel_rfl) (by kernel_rfl) (by kernel_rfl)) ?_
  intro W base args ds gs before hval0 hW hcnd _
  have hval : ∀ (j : Nat) t v, Try.f3.params[j]? = some t → args[j]? = some v → Value.okWide Try.prog W .any base t v := hval0
  have hW' := hW
  obtain ⟨p, q, hA0, hV, rfl, hfz, hnd⟩ := hW
  have hA : DataW.TrodAll enc Try.prog W 0 (fun _ => true) true Try.f3.params.toList args.toList ds p := hA0
  rw [Try.params3] at hA hval
  obtain ⟨v0, vs0, d0, ds0, p0, q0, hargs, rfl, rfl, h0, r0⟩ := trodAll_cons hA
  obtain ⟨rfl, rfl, rfl⟩ := trodAll_nil r0
  obtain rfl : args = #[v0] := by cases args; simp_all
  obtain ⟨rfl, rfl⟩ := trodVars_none hV
  obtain ⟨a0, len0, cap0, rfl⟩ := okWide_slice Try.underlying22 (hval 0 22 v0 rfl rfl)
  have k0 := h0
  have lt0 : ∀ x ∈ p0, x.block < W.heap.size := by obtain ⟨m, hm⟩ := k0; exact DataW.trod_lt m _ _ _ hm
  obtain ⟨L0, w0⟩ : ∃ L, OL W a0 len0 cap0 L ∧ ∀ y ∈ L, Ook y := by
    obtain ⟨fuel, hf⟩ := h0
    exact open_ops hf
  clear hA0 hval0
  refine (walk a0 len0 cap0 L0 W w0).mono fun e W' ⟨he, bel⟩ => ?_
  subst he
  exact ⟨_, rfl, _, _, _, [], _, [], hW', trodAll_mk1 (shut_bool Try.underlying4 _), (trodAll_cons_mk (Below.trod laidOut (by kernel_rfl) (of_decide_eq_true (by kernel_rfl)) k0 bel lt0) trodAll_mk0), rfl, bel.frame _, fun h => by cases h⟩

theorem over : Rows.opNetsRow.holds Try.pinned (OpenSpec.ofChange Rows.opNetsSpec) :=
  OpenClaim.holds_of_wide 3 Try.f3 rfl rfl rfl rfl rfl rfl rfl ⟨rfl, rfl, rfl, rfl, rfl⟩ rfl rfl rfl rfl rfl (by kernel_rfl) Try.func3 (by kernel_rfl)
    (of_decide_eq_true (by kernel_rfl)) (by unfold Func.isWrapper; first | (rw [if_pos (by decide +kernel)]; kernel_rfl) | (rw [if_neg (by decide +kernel)]; exact ⟨rfl, rfl⟩))
    (fun os started H enc _ => lifted os started H enc)

theorem proved : Rows.OpNetsSaid := over
#print axioms proved
end Go.Proofs.Ytmjhfohpllndhaa.opNets
