/-
  KeySets answers true of any keys, and writes nothing that was there: the tied card. No condition but the card's own: the library's variables lie as the program's text lays them.
-/
import Derived.Test.YtlmfmccbefgjgaaDoorRows
import Derived.Test.YtlmfmccbefgjgaaDoorCards
import Derived.Test.YtlmfmccbefgjgaaDoorTie
import Derived.SevenTiedAt
import Derived.Stop.Joined
import Derived.Test.YtlmfmccbefgjgaaDoorKeyDoor
import Derived.Test.YtlmfmccbefgjgaaDoorKeySet
import Derived.Test.YtlmfmccbefgjgaaDoorKeyRefSet
import Derived.WalkKit
import Derived.ProofKit
import Derived.OpenShut
import Derived.ShutString
import Derived.ChangeOld
import Derived.Below
namespace Go.Proofs.YtlmfmccbefgjgaaDoor.keySets
open Go.ChangeShapes Go.WideShapes Go.ChangeAt Go.RowKit
open Go.ChangeMaps (open_string shut_string)
set_option linter.unusedVariables false

theorem own : ownKnob Tryd.prog.godebug = none := by kernel_rfl
theorem laidOut : laidOutB Tryd.prog = true := by kernel_rfl

set_option maxHeartbeats 1000000 in
set_option maxRecDepth 100000 in
theorem walk (a0 : Option Addr) (len0 cap0 : Nat) (L0 : List K) (w : World) (hv : Vars w) (w0 : KL w a0 len0 cap0 L0) :
    Calls Tryd.prog 3 #[.slice a0 len0 cap0] w fun e w' => e = .returned (.bool true) ∧ Below w.heap.size w w' := by
  have HV := Lib.hid hv
  obtain ⟨k, hk⟩ : ∃ k, k = min len0 100 := ⟨_, rfl⟩
  have hkl : k ≤ len0 := by omega
  have hk100 : k ≤ 100 := by omega
  have hkc : k ≤ cap0 := Nat.le_trans hkl w0.cap
  have hm1 : (if (100 : Int) < (len0 : Int) then (100 : Int) else (len0 : Int)) = (k : Int) := by split <;> omega
  have hm2 : min (len0 : Int) 100 = (k : Int) := by omega
  have HK := Lib.hid (w0.take k hkl)
  clear hv w0 hk
  generalize L0.take k = L at *
  have hlen : (setL L).length ≤ 100 := by
    have h := setTo_len L k
    rw [setTo, List.take_of_length_le (by rw [HK.out.len]; exact Nat.le_refl _)] at h
    exact Nat.le_trans h hk100
  have hself : setL (setL L) = setL L := up_one _ _ (set_up _) (set_up _) fun x => by rw [set_mem]
  have HS1 : Hid (∀ W, KL W a0 k cap0 L → Calls Tryd.prog 4 #[.slice a0 k cap0] W (Lists W (setL L))) := Lib.hid fun W h => set_any a0 k cap0 L W h (by omega)
  have HR1 : Hid (∀ W, KL W a0 k cap0 L → Calls Tryd.prog 6 #[.slice a0 k cap0] W (Lists W (setL L))) := Lib.hid fun W h => refset_any a0 k cap0 L W h (by omega)
  have HS2 : Hid (∀ p c W, KL W p (setL L).length c (setL L) → Calls Tryd.prog 4 #[.slice p (setL L).length c] W (Lists W (setL L))) := Lib.hid fun p c W h => by
    have := set_any p _ c (setL L) W h (by omega)
    rwa [hself] at this
  generalize setL L = M at *
  clear hself
  generalize hm : M.length = m at *
  have HM := Lib.hid hm
  clear hm
  go_enter Tryd.func3, Tryd.ntmps3
  go_wp2_with fail
  refine (HS1.out _ HK.out).mono ?_
  rintro e W1 ⟨p1, c1, rfl, h1, b1⟩
  rw [HM.out] at h1 ⊢
  have HB1 := Lib.hid b1
  have HK1 := Lib.hid (HK.out.later b1)
  have HM1 := Lib.hid h1
  clear h1 b1
  go_wp2_with fail
  refine (HR1.out _ HK1.out).mono ?_
  rintro e W2 ⟨p2, c2, rfl, h2, b2⟩
  rw [HM.out] at h2 ⊢
  have HB2 := Lib.hid (HB1.out.trans (b2.mono HB1.out.size))
  have HM2 := Lib.hid (HM1.out.later b2)
  have HR2 := Lib.hid h2
  clear h2 b2
  go_wp2_with fail
  refine (same_any _ _ _ _ _ _ _ _ _ HM2.out HR2.out (by omega)).mono ?_
  rintro e W3 ⟨rfl, b3⟩
  rw [decide_eq_true (rfl : M = M)]
  have HB3 := Lib.hid (HB2.out.trans (b3.mono HB2.out.size))
  have HM3 := Lib.hid (HM2.out.later b3)
  clear b3
  have h3 := HS2.out p1 c1 _ HM3.out
  go_wp2_with fail
  refine h3.mono ?_
  rintro e W4 ⟨p4, c4, rfl, h4, b4⟩
  rw [HM.out] at h4 ⊢
  have HB4 := Lib.hid (HB3.out.trans (b4.mono HB3.out.size))
  have HM4 := Lib.hid (HM3.out.later b4)
  have HR4 := Lib.hid h4
  clear h3 h4 b4
  go_wp2_with fail
  refine (same_any _ _ _ _ _ _ _ _ _ HR4.out HM4.out (by omega)).mono ?_
  rintro e W5 ⟨rfl, b5⟩
  rw [decide_eq_true (rfl : M = M)]
  have HB5 := Lib.hid (HB4.out.trans (b5.mono HB4.out.size))
  clear b5
  have hV5 := HV.out.later HB5.out
  go_wp2_with fail
  refine (works_any _ hV5).mono ?_
  rintro e W6 ⟨rfl, b6⟩
  have HB6 := Lib.hid (HB5.out.trans (b6.mono HB5.out.size))
  clear b6
  go_wp2_with fail
  go_ret
  exact ⟨rfl, HB6.out⟩

set_option maxRecDepth 100000 in
theorem lifted (os : Os) (started : os.Started) (H : Type) (enc : TypeId × Value → H) :
    ReturnsInHanded {} Tryd.checked os 3 .any (fun w args => (Rows.keySetsSpec.pre enc Tryd.prog Tryd.f3 [] false w args ∧ laidMetH Tryd.prog Rows.keySetsRow.laid w) ∧ sizedMet enc Tryd.prog Tryd.f3 (OpenSpec.ofChange Rows.keySetsSpec) false w args) (Rows.keySetsSpec.post enc Tryd.prog Tryd.f3 false true false false) := by
  refine returnsInHanded_of_change_and (C := Tryd.checked) (X := fun w _ => laidMetH Tryd.prog Rows.keySetsRow.laid w) (fun _ _ _ hh h => h.of_heap hh) own started (by kernel_rfl) Tryd.func3
    (ChangeSpec.witness_shaped (enc := enc) (C := Tryd.checked) (os := os) (X := fun w _ => laidMetH Tryd.prog Rows.keySetsRow.laid w) false (World.doorLaid Tryd.prog 400 os) #[.slice none 0 0] 8 rfl (World.shaped_of_RefB (by kernel_rfl) (by kernel_rfl)) (by kernel_rfl) (by kernel_rfl) (by kernel_rfl) (door_met os _)) ?_
  intro W base args ds gs before hval0 hW _ _ hL _
  have hval : ∀ (j : Nat) t v, Tryd.f3.params[j]? = some t → args[j]? = some v → Value.okWide Tryd.prog W .any base t v := hval0
  have hW' := hW
  obtain ⟨p, q, hA0, hV, rfl, hfz, hnd⟩ := hW
  have hA : DataW.TrodAll enc Tryd.prog W 0 (fun _ => true) true Tryd.f3.params.toList args.toList ds p := hA0
  rw [Tryd.params3] at hA hval
  obtain ⟨v0, vs0, d0, ds0, p0, q0, hargs, rfl, rfl, h0, r0⟩ := trodAll_cons hA
  obtain ⟨rfl, rfl, rfl⟩ := trodAll_nil r0
  obtain rfl : args = #[v0] := by cases args; simp_all
  obtain ⟨rfl, rfl⟩ := trodVars_none hV
  obtain ⟨a0, len0, cap0, rfl⟩ := okWide_slice Tryd.underlying22 (hval 0 22 v0 rfl rfl)
  have k0 := h0
  have lt0 : ∀ x ∈ p0, x.block < W.heap.size := by obtain ⟨m, hm⟩ := k0; exact DataW.trod_lt m _ _ _ hm
  obtain ⟨L0, w0⟩ : ∃ L, KL W a0 len0 cap0 L := by
    obtain ⟨fuel, hf⟩ := h0
    exact open_keys hf
  clear hA0 hval0
  refine (walk a0 len0 cap0 L0 W (of_laid hL) w0).mono fun e W' ⟨he, bel⟩ => ?_
  subst he
  exact ⟨_, rfl, _, _, _, [], _, [], hW', trodAll_mk1 (shut_bool Tryd.underlying4 _), (trodAll_cons_mk (Below.trod laidOut (by kernel_rfl) (of_decide_eq_true (by kernel_rfl)) k0 bel lt0) trodAll_mk0), rfl, bel.frame _, fun h => by cases h⟩

theorem over : Rows.keySetsRow.holds Tryd.pinned (OpenSpec.ofChange Rows.keySetsSpec) :=
  OpenClaim.holds_of_wide 3 Tryd.f3 rfl rfl rfl rfl rfl rfl rfl ⟨rfl, rfl, rfl, rfl, rfl⟩ rfl rfl rfl rfl rfl (by kernel_rfl) Tryd.func3 (by kernel_rfl)
    (of_decide_eq_true (by kernel_rfl)) (by unfold Func.isWrapper; first | (rw [if_pos (by decide +kernel)]; kernel_rfl) | (rw [if_neg (by decide +kernel)]; exact ⟨rfl, rfl⟩))
    (fun os started H enc _ => lifted os started H enc)

theorem proved : Rows.KeySetsCardSaid :=
  Claim7.holds_tied_plain_at .later [] [.data, .data, .data, .sentinel, .sentinel] true (true, "0ec571041860eecf0e6686107cb623d929ab5c2e2fe048d5989e2e99464baec7") true
    over (fun _ h => by cases h) (by kernel_rfl) (fun _ h => by cases h) keySets_row_tie rfl ⟨rfl, rfl⟩ (by kernel_rfl) rfl
    (fun f fn hf hfn => by
      obtain rfl : f = 3 := Option.some.inj ((show Tryd.prog.funcNamed "pledge/pledgelaw04.KeySets" = some 3 by kernel_rfl).symm.trans hf) |>.symm
      obtain rfl : fn = Tryd.f3 := (Option.some.inj (Tryd.func3.symm.trans hfn)).symm
      exact ⟨by kernel_rfl, fun j t ht => by
        rw [Tryd.params3] at ht
        have hm : t ∈ [22] := by simpa using Array.mem_of_getElem? ht
        have hall : ([22].all fun u => !Tryd.prog.wantsStandIn u) = true := by kernel_rfl
        exact (show Tryd.prog.wantsStandIn t = false by simpa using List.all_eq_true.1 hall t hm)⟩)
    (by kernel_rfl)
#print axioms proved
end Go.Proofs.YtlmfmccbefgjgaaDoor.keySets
