/-
  StepGood answers true of any numbers and any step, and writes nothing that was there: the tied card. No condition but the card's own: the words of the tags lie as the program's text lays them.
DOOR5
DOOR: Words of_laid door_met
-/
import Derived.Test.YtnmdplefedffnaaDoorRows
import Derived.Test.YtnmdplefedffnaaDoorCards
import Derived.Test.YtnmdplefedffnaaDoorTie
import Derived.SevenTiedAt
import Derived.Stop.Joined
import Derived.Test.YtnmdplefedffnaaDoorStepMay
import Derived.Test.YtnmdplefedffnaaDoorStepWorks
import Derived.WalkKit
import Derived.ProofKit
import Derived.OpenShut
import Derived.ShutString
import Derived.ChangeOld
import Derived.Below
namespace Go.Proofs.YtnmdplefedffnaaDoor.stepGood
open Go.ChangeShapes Go.WideShapes Go.ChangeAt Go.RowKit
open Go.ChangeMaps (open_string shut_string)
set_option linter.unusedVariables false

theorem own : ownKnob Tryd.prog.godebug = none := by kernel_rfl
theorem laidOut : laidOutB Tryd.prog = true := by kernel_rfl

set_option maxHeartbeats 1000000 in
set_option maxRecDepth 100000 in
theorem walk (a0 : Int) (a1 : Int) (a2 : Array Value) (w : World) (hv : Words w) (w0 : (Lit.int .i64 a0).wf = true) (w1 : (Lit.int .i64 a1).wf = true) (w2 : StepIn w a2) :
    Calls Tryd.prog 3 #[.int .i64 a0, .int .i64 a1, .agg a2] w fun e w' => e = .returned (.bool true) ∧ Below w.heap.size w w' := by
  obtain ⟨t, r, p, n, c, L, rfl, ht, hr, hL, hok⟩ := w2
  have hb1 : Below w.heap.size w (w.alloc (.cells #[.int .u8 t, .int .u8 r, .slice p n c] 24)) := (Below.refl _ _).alloc (Nat.le_refl _) _
  have HB1 := Lib.hid hb1
  have HV1 := Lib.hid (hv.later hb1)
  have HL1 := Lib.hid (hL.later hb1)
  have HX1 := Lib.hid (alloc_block w (.cells #[.int .u8 t, .int .u8 r, .slice p n c] 24))
  have HOK := Lib.hid hok
  have HT := Lib.hid ht
  have HR := Lib.hid hr
  clear hv hL hok ht hr hb1
  by_cases hn : n ≤ 20
  case neg =>
    have hd : decide ((n : Int) ≤ 20) = false := decide_eq_false (by omega)
    have hfew := few_any t r p n c
    rw [hd] at hfew
    clear hd hn
    go_enter Tryd.func3, Tryd.ntmps3
    go_wp2_with fail
    refine (hfew _).mono ?_
    rintro e w2 ⟨rfl, h2⟩
    have HB2 := Lib.hid (HB1.out.trans (h2.mono HB1.out.size))
    have HV2 := Lib.hid (HV1.out.later h2)
    clear hfew h2
    go_wp2_with fail
    refine (step_works _ HV2.out).mono ?_
    rintro e w3 ⟨rfl, h3⟩
    have HB3 := Lib.hid (HB2.out.trans (h3.mono HB2.out.size))
    clear h3
    go_wp2_with fail
    go_ret
    exact ⟨rfl, HB3.out⟩
  have hd : decide ((n : Int) ≤ 20) = true := decide_eq_true (by omega)
  have hfew := few_any t r p n c
  rw [hd] at hfew
  have HN := Lib.hid hn
  clear hd hn
  go_enter Tryd.func3, Tryd.ntmps3
  go_wp2_with fail
  refine (hfew _).mono ?_
  rintro e w2 ⟨rfl, h2⟩
  have HB2 := Lib.hid (HB1.out.trans (h2.mono HB1.out.size))
  have HX2 := Lib.hid (block_later HX1.out h2)
  have HV2 := Lib.hid (HV1.out.later h2)
  have HL2 := Lib.hid (HL1.out.later h2)
  have hg := fun q : After w2 => good_s a0 a1 t r p n c L q.w (HV2.out.later q.h) (HL2.out.later q.h) HOK.out HT.out HR.out (by have := HN.out; omega)
  have hrg := fun q : After w2 => rgood_s a0 a1 t r p n c L q.w (HL2.out.later q.h) HOK.out HT.out HR.out (by have := HN.out; omega)
  have hwk := fun q : After w2 => step_works q.w (HV2.out.later q.h)
  generalize goodS a0 a1 t r L = gg at *
  have hgg : (gg == gg) = true := beq_self_eq_true gg
  have e0 := fun q : After w2 => cell_after q (block_cell (j := 0) (v := .int .u8 t) HX2.out rfl)
  have e1 := fun q : After w2 => cell_after q (block_cell (j := 1) (v := .int .u8 r) HX2.out rfl)
  have e2 := fun q : After w2 => cell_after q (block_cell (j := 2) (v := .slice p n c) HX2.out rfl)
  clear hfew h2 HB1 HX1 HV1 HL1
  go_wp2_with fail
  refine wp_region_after (by kernel_rfl) (by kernel_rfl) ?_
  repeat (go_big_quiet_step (first | (go_at_call 10; exact calls_after _ (hg _)) | (go_at_call 11; exact calls_after _ (hrg _)) | (go_at_call 9; exact calls_after _ (hwk _))))
  refine wpQuiet_nil ?_
  rintro w3 ⟨⟨wq, h6⟩, hw⟩
  subst hw
  go_wp2_with fail
  go_ret
  exact ⟨rfl, HB2.out.trans (h6.mono HB2.out.size)⟩

set_option maxRecDepth 100000 in
theorem lifted (os : Os) (started : os.Started) (H : Type) (enc : TypeId × Value → H) :
    ReturnsInHanded {} Tryd.checked os 3 .any (fun w args => (Rows.stepGoodSpec.pre enc Tryd.prog Tryd.f3 [] false w args ∧ laidMetH Tryd.prog Rows.stepGoodRow.laid w) ∧ sizedMet enc Tryd.prog Tryd.f3 (OpenSpec.ofChange Rows.stepGoodSpec) false w args) (Rows.stepGoodSpec.post enc Tryd.prog Tryd.f3 false true false false) := by
  refine returnsInHanded_of_change_and (C := Tryd.checked) (X := fun w _ => laidMetH Tryd.prog Rows.stepGoodRow.laid w) (fun _ _ _ hh h => h.of_heap hh) own started (by kernel_rfl) Tryd.func3
    (ChangeSpec.witness_shaped (enc := enc) (C := Tryd.checked) (os := os) (X := fun w _ => laidMetH Tryd.prog Rows.stepGoodRow.laid w) false (World.doorLaid Tryd.prog 400 os) #[.int .i64 0, .int .i64 0, .agg #[.int .u8 0, .int .u8 0, .slice none 0 0]] 8 rfl (World.shaped_of_RefB (by kernel_rfl) (by kernel_rfl)) (by kernel_rfl) (by kernel_rfl) (by kernel_rfl) (door_met os _)) ?_
  intro W base args ds gs before hval0 hW _ _ hL _
  have hval : ∀ (j : Nat) t v, Tryd.f3.params[j]? = some t → args[j]? = some v → Value.okWide Tryd.prog W .any base t v := hval0
  have hW' := hW
  obtain ⟨p, q, hA0, hV, rfl, hfz, hnd⟩ := hW
  have hA : DataW.TrodAll enc Tryd.prog W 0 (fun _ => true) true Tryd.f3.params.toList args.toList ds p := hA0
  rw [Tryd.params3] at hA hval
  obtain ⟨v0, vs0, d0, ds0, p0, q0, hargs, rfl, rfl, h0, r0⟩ := trodAll_cons hA
  obtain ⟨v1, vs1, d1, ds1, p1, q1, rfl, rfl, rfl, h1, r1⟩ := trodAll_cons r0
  obtain ⟨v2, vs2, d2, ds2, p2, q2, rfl, rfl, rfl, h2, r2⟩ := trodAll_cons r1
  obtain ⟨rfl, rfl, rfl⟩ := trodAll_nil r2
  obtain rfl : args = #[v0, v1, v2] := by cases args; simp_all
  obtain ⟨rfl, rfl⟩ := trodVars_none hV
  have k0 := h0
  have lt0 : ∀ x ∈ p0, x.block < W.heap.size := by obtain ⟨m, hm⟩ := k0; exact DataW.trod_lt m _ _ _ hm
  obtain ⟨a0, rfl, rfl, rfl, w0⟩ := open_int Tryd.underlying3 (hval 0 3 v0 rfl rfl) h0
  have k1 := h1
  have lt1 : ∀ x ∈ p1, x.block < W.heap.size := by obtain ⟨m, hm⟩ := k1; exact DataW.trod_lt m _ _ _ hm
  obtain ⟨a1, rfl, rfl, rfl, w1⟩ := open_int Tryd.underlying3 (hval 1 3 v1 rfl rfl) h1
  have k2 := h2
  have lt2 : ∀ x ∈ p2, x.block < W.heap.size := by obtain ⟨m, hm⟩ := k2; exact DataW.trod_lt m _ _ _ hm
  obtain ⟨a2, rfl, w2⟩ := open_step (hval 2 24 v2 rfl rfl) h2
  clear hA0 hval0
  refine (walk a0 a1 a2 W (of_laid hL) w0 w1 w2).mono fun e W' ⟨he, bel⟩ => ?_
  subst he
  exact ⟨_, rfl, _, _, _, [], _, [], hW', trodAll_mk1 (shut_bool Tryd.underlying4 _), (trodAll_cons_mk (Below.trod laidOut (by kernel_rfl) (of_decide_eq_true (by kernel_rfl)) k0 bel lt0) (trodAll_cons_mk (Below.trod laidOut (by kernel_rfl) (of_decide_eq_true (by kernel_rfl)) k1 bel lt1) (trodAll_cons_mk (Below.trod laidOut (by kernel_rfl) (of_decide_eq_true (by kernel_rfl)) k2 bel lt2) trodAll_mk0))), rfl, bel.frame _, fun h => by cases h⟩

theorem over : Rows.stepGoodRow.holds Tryd.pinned (OpenSpec.ofChange Rows.stepGoodSpec) :=
  OpenClaim.holds_of_wide 3 Tryd.f3 rfl rfl rfl rfl rfl rfl rfl ⟨rfl, rfl, rfl, rfl, rfl⟩ rfl rfl rfl rfl rfl (by kernel_rfl) Tryd.func3 (by kernel_rfl)
    (of_decide_eq_true (by kernel_rfl)) (by unfold Func.isWrapper; first | (rw [if_pos (by decide +kernel)]; kernel_rfl) | (rw [if_neg (by decide +kernel)]; exact ⟨rfl, rfl⟩))
    (fun os started H enc _ => lifted os started H enc)

theorem proved : Rows.StepGoodCardSaid :=
  Claim7.holds_tied_plain_at .later [] [.data] true (true, "1ea3b0e1f906f0138b000609bc199b793b93454a5936b1b53978e693560eec91") false
    over (fun _ h => by cases h) (by kernel_rfl) (fun _ h => by cases h) stepGood_row_tie rfl ⟨rfl, rfl⟩ (by kernel_rfl) rfl
    (fun f fn hf hfn => by
      obtain rfl : f = 3 := Option.some.inj ((show Tryd.prog.funcNamed "pledge/pledgelaw12.StepGood" = some 3 by kernel_rfl).symm.trans hf) |>.symm
      obtain rfl : fn = Tryd.f3 := (Option.some.inj (Tryd.func3.symm.trans hfn)).symm
      exact ⟨by kernel_rfl, fun j t ht => by
        rw [Tryd.params3] at ht
        have hm : t ∈ [3, 3, 24] := by simpa using Array.mem_of_getElem? ht
        have hall : ([3, 3, 24].all fun u => !Tryd.prog.wantsStandIn u) = true := by kernel_rfl
        exact (show Tryd.prog.wantsStandIn t = false by simpa using List.all_eq_true.1 hall t hm)⟩)
    (by kernel_rfl)
#print axioms proved
end Go.Proofs.YtnmdplefedffnaaDoor.stepGood
