/-
  NeedSteps answers true of any step, and writes nothing that was there: the tied card. No condition but the card's own: the words of the tags lie as the program's text lays them.
DOOR5
DOOR: Words of_laid door_met
-/
import Derived.Test.YtclbkfpbdidaiaaDoorRows
import Derived.Test.YtclbkfpbdidaiaaDoorCards
import Derived.Test.YtclbkfpbdidaiaaDoorTie
import Derived.SevenTiedAt
import Derived.Stop.Joined
import Derived.Test.YtclbkfpbdidaiaaDoorPA48
import Derived.Test.YtclbkfpbdidaiaaDoorPA42
import Derived.Test.YtclbkfpbdidaiaaDoorPA27
import Derived.WalkKit
import Derived.ProofKit
import Derived.OpenShut
import Derived.ShutString
import Derived.ChangeOld
import Derived.Below
namespace Go.Proofs.YtclbkfpbdidaiaaDoor.needSteps
open Go.ChangeShapes Go.WideShapes Go.ChangeAt Go.RowKit
open Go.ChangeMaps (open_string shut_string)
set_option linter.unusedVariables false

theorem own : ownKnob Tryd.prog.godebug = none := by kernel_rfl
theorem laidOut : laidOutB Tryd.prog = true := by kernel_rfl

set_option maxHeartbeats 1000000 in
set_option maxRecDepth 100000 in
theorem walk (a0 : Array Value) (w : World) (hv : Words w) (w0 : StepIn w a0) :
    Calls Tryd.prog 3 #[.agg a0] w fun e w' => e = .returned (.bool true) ∧ Below w.heap.size w w' := by
  obtain ⟨t, r, p, n, c, L, rfl, ht, hr, hL, hok⟩ := w0
  have hb1 : Below w.heap.size w (w.alloc (.cells #[.int .u8 t, .int .u8 r, .slice p n c] 24)) := (Below.refl _ _).alloc (Nat.le_refl _) _
  have HB1 := Lib.hid hb1
  have HV1 := Lib.hid (hv.later hb1)
  have HL1 := Lib.hid (hL.later hb1)
  have HX1 := Lib.hid (z0b w (.cells #[.int .u8 t, .int .u8 r, .slice p n c] 24))
  have HOK := Lib.hid hok
  have hln := hL.len
  clear hv hL hok ht hr hb1
  by_cases hn : n ≤ 20
  case neg =>
    have hd : decide (20 < (n : Int)) = true := decide_eq_true (by omega)
    have hd2 : decide (20 < n) = true := decide_eq_true (by omega)
    clear hn
    go_enter Tryd.func3, Tryd.ntmps3
    go_wp2_with fail
    refine (nd_works _ HV1.out).mono ?_
    rintro e w2 ⟨rfl, h2⟩
    have HB2 := Lib.hid (HB1.out.trans (h2.mono HB1.out.size))
    clear h2
    go_wp2_with fail
    go_ret
    exact ⟨rfl, HB2.out⟩
  have hd : decide (20 < (n : Int)) = false := decide_eq_false (by omega)
  have hd2 : decide (20 < n) = false := decide_eq_false (by omega)
  obtain ⟨W1, hW1⟩ : ∃ W1, w.alloc (.cells #[.int .u8 t, .int .u8 r, .slice p n c] 24) = W1 := ⟨_, rfl⟩
  obtain ⟨B, hB⟩ : ∃ B, w.heap.size = B := ⟨_, rfl⟩
  rw [hW1] at HB1 HV1 HL1 HX1
  rw [hB] at HX1
  have HW1 := Lib.hid hW1
  have HBE := Lib.hid hB
  obtain ⟨k0, k1, k2⟩ := z1h HX1.out
  have x0 := fun q : After W1 => z1i q k0
  have x1 := fun q : After W1 => z1i q k1
  have x2 := fun q : After W1 => z1i q k2
  have hc1 := fun q : After W1 => nd_pass t r p n c L q.w (HL1.out.later q.h) HOK.out (by omega)
  have hc2 := fun q : After W1 => nr_pass t r p n c L q.w (HL1.out.later q.h) HOK.out (by omega)
  have hc3 := fun q : After W1 => nd_fail t r p n c L q.w (HL1.out.later q.h) HOK.out (by omega)
  have hc4 := fun q : After W1 => nr_fail t r p n c L q.w (HL1.out.later q.h) HOK.out (by omega)
  have hc5 := fun q : After W1 => nd_works q.w (HV1.out.later q.h)
  have hpf : decide (passS (t, r, L) ≤ failS (t, r, L)) = true := decide_eq_true (by unfold passS failS passN failN; omega)
  generalize passS (t, r, L) = vp at *
  generalize failS (t, r, L) = vf at *
  have hpp : (vp == vp) = true := beq_self_eq_true vp
  have hff : (vf == vf) = true := beq_self_eq_true vf
  clear hW1 hB hn hln
  go_enter Tryd.func3, Tryd.ntmps3
  go_upto_region 1 with (fail)
  rw [HW1.out, HBE.out]
  go_upto_region 3 with (fail)
  refine z0t (by kernel_rfl) (by kernel_rfl) ?_
  repeat (go_big_quiet_step (first | (go_at_call 5; with_reducible exact z0g _ (hc1 _)) | (go_at_call 6; with_reducible exact z0g _ (hc2 _)) | (go_at_call 7; with_reducible exact z0g _ (hc3 _)) | (go_at_call 8; with_reducible exact z0g _ (hc4 _)) | (go_at_call 4; exact z0g _ (hc5 _))))
  refine wpQuiet_nil ?_
  intro w4 hw'
  obtain ⟨⟨wq, h6⟩, hw''⟩ := hw'
  subst hw''
  clear hc1 hc2 hc3 hc4 hc5 x0 x1 x2 k0 k1 k2
  go_wp2_with fail
  go_ret
  exact ⟨rfl, HB1.out.trans (h6.mono HB1.out.size)⟩

set_option maxRecDepth 100000 in
theorem lifted (os : Os) (started : os.Started) (H : Type) (enc : TypeId × Value → H) :
    ReturnsInHanded {} Tryd.checked os 3 .any (fun w args => (Rows.needStepsSpec.pre enc Tryd.prog Tryd.f3 [] false w args ∧ laidMetH Tryd.prog Rows.needStepsRow.laid w) ∧ sizedMet enc Tryd.prog Tryd.f3 (OpenSpec.ofChange Rows.needStepsSpec) false w args) (Rows.needStepsSpec.post enc Tryd.prog Tryd.f3 false true false false) := by
  refine returnsInHanded_of_change_and (C := Tryd.checked) (X := fun w _ => laidMetH Tryd.prog Rows.needStepsRow.laid w) (fun _ _ _ hh h => h.of_heap hh) own started (by kernel_rfl) Tryd.func3
    (ChangeSpec.witness_shaped (enc := enc) (C := Tryd.checked) (os := os) (X := fun w _ => laidMetH Tryd.prog Rows.needStepsRow.laid w) false (World.doorLaid Tryd.prog 400 os) #[.agg #[.int .u8 0, .int .u8 0, .slice none 0 0]] 8 rfl (World.shaped_of_RefB (by kernel_rfl) (by kernel_rfl)) (by kernel_rfl) (by kernel_rfl) (by kernel_rfl) (door_met os _)) ?_
  intro W base args ds gs before hval0 hW _ _ hL _
  have hval : ∀ (j : Nat) t v, Tryd.f3.params[j]? = some t → args[j]? = some v → Value.okWide Tryd.prog W .any base t v := hval0
  have hW' := hW
  obtain ⟨p, q, hA0, hV, rfl, hfz, hnd⟩ := hW
  have hA : DataW.TrodAll enc Tryd.prog W 0 (fun _ => true) true Tryd.f3.params.toList args.toList ds p := hA0
  rw [Tryd.params3] at hA hval
  obtain ⟨v0, vs0, d0, ds0, p0, q0, hargs, rfl, rfl, h0, r0⟩ := trodAll_cons hA
  obtain ⟨rfl, rfl, rfl⟩ := trodAll_nil r0
  obtain rfl : args = #[v0] := by cases args; simp_all
  obtain ⟨rfl, rfl⟩ := trodVars_none hV
  have k0 := h0
  have lt0 : ∀ x ∈ p0, x.block < W.heap.size := by obtain ⟨m, hm⟩ := k0; exact DataW.trod_lt m _ _ _ hm
  obtain ⟨a0, rfl, w0⟩ := open_step (hval 0 24 v0 rfl rfl) h0
  clear hA0 hval0
  refine (walk a0 W (of_laid hL) w0).mono fun e W' ⟨he, bel⟩ => ?_
  subst he
  exact ⟨_, rfl, _, _, _, [], _, [], hW', trodAll_mk1 (shut_bool Tryd.underlying4 _), (trodAll_cons_mk (Below.trod laidOut (by kernel_rfl) (of_decide_eq_true (by kernel_rfl)) k0 bel lt0) trodAll_mk0), rfl, bel.frame _, fun h => by cases h⟩

theorem over : Rows.needStepsRow.holds Tryd.pinned (OpenSpec.ofChange Rows.needStepsSpec) :=
  OpenClaim.holds_of_wide 3 Tryd.f3 rfl rfl rfl rfl rfl rfl rfl ⟨rfl, rfl, rfl, rfl, rfl⟩ rfl rfl rfl rfl rfl (by kernel_rfl) Tryd.func3 (by kernel_rfl)
    (of_decide_eq_true (by kernel_rfl)) (by unfold Func.isWrapper; first | (rw [if_pos (by decide +kernel)]; kernel_rfl) | (rw [if_neg (by decide +kernel)]; exact ⟨rfl, rfl⟩))
    (fun os started H enc _ => lifted os started H enc)

theorem proved : Rows.NeedStepsCardSaid :=
  Claim7.holds_tied_plain_at .later [] [.data] true (true, "71d0625c7e89112afb0ccd2347e13a3b84d890e6cf06be918e0152733891fa24") false
    over (fun _ h => by cases h) (by kernel_rfl) (fun _ h => by cases h) needSteps_row_tie rfl ⟨rfl, rfl⟩ (by kernel_rfl) rfl
    (fun f fn hf hfn => by
      obtain rfl : f = 3 := Option.some.inj ((show Tryd.prog.funcNamed "pledge/pledgelaw21.NeedSteps" = some 3 by kernel_rfl).symm.trans hf) |>.symm
      obtain rfl : fn = Tryd.f3 := (Option.some.inj (Tryd.func3.symm.trans hfn)).symm
      exact ⟨by kernel_rfl, fun j t ht => by
        rw [Tryd.params3] at ht
        have hm : t ∈ [24] := by simpa using Array.mem_of_getElem? ht
        have hall : ([24].all fun u => !Tryd.prog.wantsStandIn u) = true := by kernel_rfl
        exact (show Tryd.prog.wantsStandIn t = false by simpa using List.all_eq_true.1 hall t hm)⟩)
    (by kernel_rfl)
#print axioms proved
end Go.Proofs.YtclbkfpbdidaiaaDoor.needSteps
