/-
  StepSame answers true of any two steps, and writes nothing that was there: the tied card. No condition but the card's own: the words of the tags lie as the program's text lays them.
DOOR5
DOOR: Words of_laid door_met
HEARTS 4000000
-/
import Derived.Test.YtnmdplefedffnaaDoorRows
import Derived.Test.YtnmdplefedffnaaDoorCards
import Derived.Test.YtnmdplefedffnaaDoorTie
import Derived.SevenTiedAt
import Derived.Stop.Joined
import Derived.Test.YtnmdplefedffnaaDoorStepAlike
import Derived.Test.YtnmdplefedffnaaDoorStepWorks
import Derived.WalkKit
import Derived.ProofKit
import Derived.OpenShut
import Derived.ShutString
import Derived.ChangeOld
import Derived.Below
namespace Go.Proofs.YtnmdplefedffnaaDoor.stepSame
open Go.ChangeShapes Go.WideShapes Go.ChangeAt Go.RowKit
open Go.ChangeMaps (open_string shut_string)
set_option linter.unusedVariables false

theorem own : ownKnob Tryd.prog.godebug = none := by kernel_rfl
theorem laidOut : laidOutB Tryd.prog = true := by kernel_rfl

set_option maxHeartbeats 4000000 in
set_option maxRecDepth 100000 in
theorem walk (a0 : Array Value) (a1 : Array Value) (w : World) (hv : Words w) (w0 : StepIn w a0) (w1 : StepIn w a1) :
    Calls Tryd.prog 5 #[.agg a0, .agg a1] w fun e w' => e = .returned (.bool true) ∧ Below w.heap.size w w' := by
  obtain ⟨t, r, p, n, c, L, rfl, ht, hr, hL, hok⟩ := w0
  obtain ⟨t', r', q, m, d, M, rfl, ht', hr', hM, hok'⟩ := w1
  obtain ⟨W2, hW2, k0, k1, hb⟩ := two_steps w #[.int .u8 t, .int .u8 r, .slice p n c] #[.int .u8 t', .int .u8 r', .slice q m d] _ _ rfl rfl
  have HW := Lib.hid hW2
  have HB := Lib.hid hb
  have HX := Lib.hid k0
  have HY := Lib.hid k1
  have HV := Lib.hid (hv.later hb)
  have HL := Lib.hid (hL.later hb)
  have HM := Lib.hid (hM.later hb)
  have a0 := block_cell (j := 0) (v := .int .u8 t) k0 rfl
  have a1 := block_cell (j := 1) (v := .int .u8 r) k0 rfl
  have a2 := block_cell (j := 2) (v := .slice p n c) k0 rfl
  have b0 := block_cell (j := 0) (v := .int .u8 t') k1 rfl
  have b1 := block_cell (j := 1) (v := .int .u8 r') k1 rfl
  have b2 := block_cell (j := 2) (v := .slice q m d) k1 rfl
  clear hv hL hok hM hok' ht hr ht' hr' hb k0 k1 hW2
  by_cases hn : n ≤ 20
  case neg =>
    have hd : decide ((n : Int) ≤ 20) = false := decide_eq_false (by omega)
    have hfew := few_any t r p n c
    rw [hd] at hfew
    clear hd hn
    go_enter Tryd.func5, Tryd.ntmps5
    go_wp2_with fail
    rw [HW.out]
    refine (hfew _).mono ?_
    rintro e w2 ⟨rfl, h2⟩
    have HB2 := Lib.hid (HB.out.trans (h2.mono HB.out.size))
    have HV2 := Lib.hid (HV.out.later h2)
    clear hfew h2 a0 a1 a2 b0 b1 b2
    go_wp2_with fail
    refine (step_works _ HV2.out).mono ?_
    rintro e w3 ⟨rfl, h3⟩
    have HB3 := Lib.hid (HB2.out.trans (h3.mono HB2.out.size))
    clear h3
    go_wp2_with fail
    go_ret
    exact ⟨rfl, HB3.out⟩
  have hd : decide ((n : Int) ≤ 20) = true := decide_eq_true (by omega)
  have hfew := few_any t r p n c
  rw [hd] at hfew
  have HN := Lib.hid hn
  clear hd hn
  by_cases hm : m ≤ 20
  case neg =>
    have hd : decide ((m : Int) ≤ 20) = false := decide_eq_false (by omega)
    have hfew2 := few_any t' r' q m d
    rw [hd] at hfew2
    clear hd hm
    go_enter Tryd.func5, Tryd.ntmps5
    go_wp2_with fail
    rw [HW.out]
    refine (hfew _).mono ?_
    rintro e w2 ⟨rfl, h2⟩
    have HB2 := Lib.hid (HB.out.trans (h2.mono HB.out.size))
    have HV2 := Lib.hid (HV.out.later h2)
    have d0 : w2.cell? ⟨w.heap.size + 1, 0, none⟩ = some (.int .u8 t') := block_cell (block_later HY.out h2) rfl
    have d1 : w2.cell? ⟨w.heap.size + 1, 1, none⟩ = some (.int .u8 r') := block_cell (block_later HY.out h2) rfl
    have d2 : w2.cell? ⟨w.heap.size + 1, 2, none⟩ = some (.slice q m d) := block_cell (block_later HY.out h2) rfl
    clear hfew h2 a0 a1 a2 b0 b1 b2
    go_wp2_with fail
    refine (hfew2 _).mono ?_
    rintro e w3 ⟨rfl, h3⟩
    have HB3 := Lib.hid (HB2.out.trans (h3.mono HB2.out.size))
    have HV3 := Lib.hid (HV2.out.later h3)
    clear hfew2 h3
    go_wp2_with fail
    refine (step_works _ HV3.out).mono ?_
    rintro e w4 ⟨rfl, h4⟩
    have HB4 := Lib.hid (HB3.out.trans (h4.mono HB3.out.size))
    clear h4
    go_wp2_with fail
    go_ret
    exact ⟨rfl, HB4.out⟩
  have hd : decide ((m : Int) ≤ 20) = true := decide_eq_true (by omega)
  have hfew2 := few_any t' r' q m d
  rw [hd] at hfew2
  have HN2 := Lib.hid hm
  clear hd hm
  go_enter Tryd.func5, Tryd.ntmps5
  go_wp2_with fail
  rw [HW.out]
  refine (hfew _).mono ?_
  rintro e w2 ⟨rfl, h2⟩
  have HB2 := Lib.hid (HB.out.trans (h2.mono HB.out.size))
  have HV2 := Lib.hid (HV.out.later h2)
  have HX2 := Lib.hid (block_later HX.out h2)
  have HY2 := Lib.hid (block_later HY.out h2)
  have HL2 := Lib.hid (HL.out.later h2)
  have HM2 := Lib.hid (HM.out.later h2)
  have d0 : w2.cell? ⟨w.heap.size + 1, 0, none⟩ = some (.int .u8 t') := block_cell HY2.out rfl
  have d1 : w2.cell? ⟨w.heap.size + 1, 1, none⟩ = some (.int .u8 r') := block_cell HY2.out rfl
  have d2 : w2.cell? ⟨w.heap.size + 1, 2, none⟩ = some (.slice q m d) := block_cell HY2.out rfl
  clear hfew h2 a0 a1 a2 b0 b1 b2
  go_wp2_with fail
  refine (hfew2 _).mono ?_
  rintro e w3 ⟨rfl, h3⟩
  have HB3 := Lib.hid (HB2.out.trans (h3.mono HB2.out.size))
  have HV3 := Lib.hid (HV2.out.later h3)
  have HX3 := Lib.hid (block_later HX2.out h3)
  have HY3 := Lib.hid (block_later HY2.out h3)
  have HL3 := Lib.hid (HL2.out.later h3)
  have HM3 := Lib.hid (HM2.out.later h3)
  clear hfew2 h3 d0 d1 d2
  have hg := fun q0 : After w3 => same_s t r t' r' p q n m c d L M q0.w (HL3.out.later q0.h) (HM3.out.later q0.h) (by have := HN.out; omega) (by have := HN2.out; omega)
  have hrg := fun q0 : After w3 => rsame_s t r t' r' p q n m c d L M q0.w (HL3.out.later q0.h) (HM3.out.later q0.h) (by have := HN.out; omega) (by have := HN2.out; omega)
  have hse := fun q0 : After w3 => same_s t r t r p p n n c c L L q0.w (HL3.out.later q0.h) (HL3.out.later q0.h) (by have := HN.out; omega) (by have := HN.out; omega)
  rw [sameS_self] at hse
  have hwk := fun q0 : After w3 => step_works q0.w (HV3.out.later q0.h)
  generalize sameS t r t' r' L M = gg at *
  have hgg : (gg == gg) = true := beq_self_eq_true gg
  have e0 := fun q0 : After w3 => cell_after q0 (block_cell (j := 0) (v := .int .u8 t) HX3.out rfl)
  have e1 := fun q0 : After w3 => cell_after q0 (block_cell (j := 1) (v := .int .u8 r) HX3.out rfl)
  have e2 := fun q0 : After w3 => cell_after q0 (block_cell (j := 2) (v := .slice p n c) HX3.out rfl)
  have e3 := fun q0 : After w3 => cell_after q0 (block_cell (j := 0) (v := .int .u8 t') HY3.out rfl)
  have e4 := fun q0 : After w3 => cell_after q0 (block_cell (j := 1) (v := .int .u8 r') HY3.out rfl)
  have e5 := fun q0 : After w3 => cell_after q0 (block_cell (j := 2) (v := .slice q m d) HY3.out rfl)
  go_wp2_with fail
  refine wp_region_after (by kernel_rfl) (by kernel_rfl) ?_
  repeat (go_big_quiet_step (first | (go_at_call 19; first | (with_reducible exact calls_after _ (hg _)) | (with_reducible exact calls_after _ (hse _))) | (go_at_call 20; exact calls_after _ (hrg _)) | (go_at_call 9; exact calls_after _ (hwk _))))
  refine wpQuiet_nil ?_
  rintro w4 ⟨⟨wq, h6⟩, hw⟩
  subst hw
  go_wp2_with fail
  go_ret
  exact ⟨rfl, HB3.out.trans (h6.mono HB3.out.size)⟩

set_option maxRecDepth 100000 in
theorem lifted (os : Os) (started : os.Started) (H : Type) (enc : TypeId × Value → H) :
    ReturnsInHanded {} Tryd.checked os 5 .any (fun w args => (Rows.stepSameSpec.pre enc Tryd.prog Tryd.f5 [] false w args ∧ laidMetH Tryd.prog Rows.stepSameRow.laid w) ∧ sizedMet enc Tryd.prog Tryd.f5 (OpenSpec.ofChange Rows.stepSameSpec) false w args) (Rows.stepSameSpec.post enc Tryd.prog Tryd.f5 false true false false) := by
  refine returnsInHanded_of_change_and (C := Tryd.checked) (X := fun w _ => laidMetH Tryd.prog Rows.stepSameRow.laid w) (fun _ _ _ hh h => h.of_heap hh) own started (by kernel_rfl) Tryd.func5
    (ChangeSpec.witness_shaped (enc := enc) (C := Tryd.checked) (os := os) (X := fun w _ => laidMetH Tryd.prog Rows.stepSameRow.laid w) false (World.doorLaid Tryd.prog 400 os) #[.agg #[.int .u8 0, .int .u8 0, .slice none 0 0], .agg #[.int .u8 0, .int .u8 0, .slice none 0 0]] 8 rfl (World.shaped_of_RefB (by kernel_rfl) (by kernel_rfl)) (by kernel_rfl) (by kernel_rfl) (by kernel_rfl) (door_met os _)) ?_
  intro W base args ds gs before hval0 hW _ _ hL _
  have hval : ∀ (j : Nat) t v, Tryd.f5.params[j]? = some t → args[j]? = some v → Value.okWide Tryd.prog W .any base t v := hval0
  have hW' := hW
  obtain ⟨p, q, hA0, hV, rfl, hfz, hnd⟩ := hW
  have hA : DataW.TrodAll enc Tryd.prog W 0 (fun _ => true) true Tryd.f5.params.toList args.toList ds p := hA0
  rw [Tryd.params5] at hA hval
  obtain ⟨v0, vs0, d0, ds0, p0, q0, hargs, rfl, rfl, h0, r0⟩ := trodAll_cons hA
  obtain ⟨v1, vs1, d1, ds1, p1, q1, rfl, rfl, rfl, h1, r1⟩ := trodAll_cons r0
  obtain ⟨rfl, rfl, rfl⟩ := trodAll_nil r1
  obtain rfl : args = #[v0, v1] := by cases args; simp_all
  obtain ⟨rfl, rfl⟩ := trodVars_none hV
  have k0 := h0
  have lt0 : ∀ x ∈ p0, x.block < W.heap.size := by obtain ⟨m, hm⟩ := k0; exact DataW.trod_lt m _ _ _ hm
  obtain ⟨a0, rfl, w0⟩ := open_step (hval 0 24 v0 rfl rfl) h0
  have k1 := h1
  have lt1 : ∀ x ∈ p1, x.block < W.heap.size := by obtain ⟨m, hm⟩ := k1; exact DataW.trod_lt m _ _ _ hm
  obtain ⟨a1, rfl, w1⟩ := open_step (hval 1 24 v1 rfl rfl) h1
  clear hA0 hval0
  refine (walk a0 a1 W (of_laid hL) w0 w1).mono fun e W' ⟨he, bel⟩ => ?_
  subst he
  exact ⟨_, rfl, _, _, _, [], _, [], hW', trodAll_mk1 (shut_bool Tryd.underlying4 _), (trodAll_cons_mk (Below.trod laidOut (by kernel_rfl) (of_decide_eq_true (by kernel_rfl)) k0 bel lt0) (trodAll_cons_mk (Below.trod laidOut (by kernel_rfl) (of_decide_eq_true (by kernel_rfl)) k1 bel lt1) trodAll_mk0)), rfl, bel.frame _, fun h => by cases h⟩

theorem over : Rows.stepSameRow.holds Tryd.pinned (OpenSpec.ofChange Rows.stepSameSpec) :=
  OpenClaim.holds_of_wide 5 Tryd.f5 rfl rfl rfl rfl rfl rfl rfl ⟨rfl, rfl, rfl, rfl, rfl⟩ rfl rfl rfl rfl rfl (by kernel_rfl) Tryd.func5 (by kernel_rfl)
    (of_decide_eq_true (by kernel_rfl)) (by unfold Func.isWrapper; first | (rw [if_pos (by decide +kernel)]; kernel_rfl) | (rw [if_neg (by decide +kernel)]; exact ⟨rfl, rfl⟩))
    (fun os started H enc _ => lifted os started H enc)

theorem proved : Rows.StepSameCardSaid :=
  Claim7.holds_tied_plain_at .later [] [.data] true (true, "1ea3b0e1f906f0138b000609bc199b793b93454a5936b1b53978e693560eec91") false
    over (fun _ h => by cases h) (by kernel_rfl) (fun _ h => by cases h) stepSame_row_tie rfl ⟨rfl, rfl⟩ (by kernel_rfl) rfl
    (fun f fn hf hfn => by
      obtain rfl : f = 5 := Option.some.inj ((show Tryd.prog.funcNamed "pledge/pledgelaw12.StepSame" = some 5 by kernel_rfl).symm.trans hf) |>.symm
      obtain rfl : fn = Tryd.f5 := (Option.some.inj (Tryd.func5.symm.trans hfn)).symm
      exact ⟨by kernel_rfl, fun j t ht => by
        rw [Tryd.params5] at ht
        have hm : t ∈ [24, 24] := by simpa using Array.mem_of_getElem? ht
        have hall : ([24, 24].all fun u => !Tryd.prog.wantsStandIn u) = true := by kernel_rfl
        exact (show Tryd.prog.wantsStandIn t = false by simpa using List.all_eq_true.1 hall t hm)⟩)
    (by kernel_rfl)
#print axioms proved
end Go.Proofs.YtnmdplefedffnaaDoor.stepSame
