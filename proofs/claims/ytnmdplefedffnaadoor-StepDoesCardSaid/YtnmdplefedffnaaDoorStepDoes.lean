/-
  StepDoes answers true of any step, and writes nothing that was there: the tied card. No condition but the card's own: the words of the tags lie as the program's text lays them.
DOOR5
DOOR: Words of_laid door_met
HEARTS 4000000
-/
import Derived.Test.YtnmdplefedffnaaDoorRows
import Derived.Test.YtnmdplefedffnaaDoorCards
import Derived.Test.YtnmdplefedffnaaDoorTie
import Derived.SevenTiedAt
import Derived.Stop.Joined
import Derived.Test.YtnmdplefedffnaaDoorStepRefOps
import Derived.Test.YtnmdplefedffnaaDoorStepWorks
import Derived.WalkKit
import Derived.ProofKit
import Derived.OpenShut
import Derived.ShutString
import Derived.ChangeOld
import Derived.Below
namespace Go.Proofs.YtnmdplefedffnaaDoor.stepDoes
open Go.ChangeShapes Go.WideShapes Go.ChangeAt Go.RowKit
open Go.ChangeMaps (open_string shut_string)
set_option linter.unusedVariables false

theorem own : ownKnob Tryd.prog.godebug = none := by kernel_rfl
theorem laidOut : laidOutB Tryd.prog = true := by kernel_rfl

set_option maxHeartbeats 4000000 in
set_option maxRecDepth 100000 in
theorem walk (a0 : Array Value) (w : World) (hv : Words w) (w0 : StepIn w a0) :
    Calls Tryd.prog 4 #[.agg a0] w fun e w' => e = .returned (.bool true) ∧ Below w.heap.size w w' := by
  obtain ⟨t, r, p, n, c, L, rfl, ht, hr, hL, hok⟩ := w0
  have hb1 : Below w.heap.size w (w.alloc (.cells #[.int .u8 t, .int .u8 r, .slice p n c] 24)) := (Below.refl _ _).alloc (Nat.le_refl _) _
  have HB1 := Lib.hid hb1
  have HV1 := Lib.hid (hv.later hb1)
  have HL1 := Lib.hid (hL.later hb1)
  have HX1 := Lib.hid (alloc_block w (.cells #[.int .u8 t, .int .u8 r, .slice p n c] 24))
  have HLN := Lib.hid hL.len
  have HOK := Lib.hid hok
  have HT := Lib.hid ht
  have HR := Lib.hid hr
  clear hv hL hok ht hr hb1
  by_cases hn : n ≤ 20
  case neg =>
    have hd : decide ((n : Int) ≤ 20) = false := decide_eq_false (by omega)
    have hfew := few_any t r p n c
    rw [hd] at hfew
    clear hd hn
    go_enter Tryd.func4, Tryd.ntmps4
    go_wp2_with fail
    refine (hfew _).mono ?_
    rintro e w2 ⟨rfl, h2⟩
    have HB2 := Lib.hid (HB1.out.trans (h2.mono HB1.out.size))
    have HV2 := Lib.hid (HV1.out.later h2)
    clear hfew h2
    go_wp2_with fail
    refine (step_works _ HV2.out).mono ?_
    rintro e w3 ⟨rfl, h3⟩
    have HB3 := Lib.hid (HB2.out.trans (h3.mono HB2.out.size))
    clear h3
    go_wp2_with fail
    go_ret
    exact ⟨rfl, HB3.out⟩
  have hd : decide ((n : Int) ≤ 20) = true := decide_eq_true (by omega)
  have hfew := few_any t r p n c
  rw [hd] at hfew
  have HN := Lib.hid hn
  clear hd hn
  go_enter Tryd.func4, Tryd.ntmps4
  go_wp2_with fail
  refine (hfew _).mono ?_
  rintro e W0 ⟨rfl, h2⟩
  have HB2 := Lib.hid (HB1.out.trans (h2.mono HB1.out.size))
  have HX2 := Lib.hid (block_later HX1.out h2)
  have HV2 := Lib.hid (HV1.out.later h2)
  have HL2 := Lib.hid (HL1.out.later h2)
  have HBX : Hid (∀ w', Below W0.heap.size W0 w' → w'.cell? ⟨w.heap.size, 0, none⟩ = some (.int .u8 t) ∧ w'.cell? ⟨w.heap.size, 1, none⟩ = some (.int .u8 r) ∧ w'.cell? ⟨w.heap.size, 2, none⟩ = some (.slice p n c)) := Lib.hid fun w' h => cells_step (block_later HX2.out h)
  have HOPS := Lib.hid fun w' (h : Below W0.heap.size W0 w') => ops_any t r p n c L w' (HL2.out.later h) HOK.out (by have := HN.out; omega)
  have HROPS := Lib.hid fun w' (h : Below W0.heap.size W0 w') => refops_any t r p n c L w' (HL2.out.later h) HOK.out (by have := HN.out; omega)
  have HUN := Lib.hid fun w' (h : Below W0.heap.size W0 w') => undo_any t r p n c L w' (HL2.out.later h) HOK.out HR.out (by have := HN.out; omega)
  have HRUN := Lib.hid fun w' (h : Below W0.heap.size W0 w') => refundo_any t r p n c L w' (HL2.out.later h) HOK.out HR.out (by have := HN.out; omega)
  have HVL : Hid ((opsS t r L).length ≤ 100000) := Lib.hid (by have := opsS_len t r L; have := HLN.out; have := HN.out; omega)
  have HUL : Hid ((negF (opsS t r L)).length ≤ 100000) := Lib.hid (by have := HVL.out; rw [← gathN_end, gathN_len]; omega)
  have HWD : Hid (∀ w', Below W0.heap.size W0 w' → Calls Tryd.prog 17 #[.int .u8 t] w' fun e w'' => e = .returned (.string (wordB t.toNat)) ∧ Below w'.heap.size w' w'') := Lib.hid fun w' h => (tagword_any t HT.out.1 HT.out.2 w' (HV2.out.later h)).mono fun e w'' ⟨he, hw⟩ => ⟨he, by rw [hw]; exact Below.refl _ _⟩
  have HRWD : Hid (∀ w', Below W0.heap.size W0 w' → Calls Tryd.prog 18 #[.int .u8 t] w' fun e w'' => e = .returned (.string (wordB t.toNat)) ∧ Below w'.heap.size w' w'') := Lib.hid fun w' h => (rword_any t HT.out.1 w').mono fun e w'' ⟨he, hw⟩ => ⟨he, by rw [hw]; exact Below.refl _ _⟩
  have HWK := Lib.hid fun w' (h : Below W0.heap.size W0 w') => step_works w' (HV2.out.later h)
  generalize negF (opsS t r L) = U at *
  generalize opsS t r L = V at *
  generalize wordB t.toNat = ss at *
  have hss1 : (ss.toList == ss.toList) = true := by simp
  have hss0 : (ss == ss) = true := by rw [beq_toListBytes]; exact hss1
  have hbd : Below W0.heap.size W0 W0.drew := (Below.refl _ _).drew
  clear hfew h2 HB1 HX1 HV1 HL1
  go_wp2_with fail
  refine wp_region_held_drew (S := fun w' => Hid (Below W0.heap.size W0 w')) (by kernel_rfl) (Lib.hid hbd) (fun hHeld => ?_)
  clear hbd
  refine wpAnyH_take (i := 0) (oi := ⟨some 7, _, _, _, _, _⟩) (v := .agg #[.int .u8 t, .int .u8 r, .slice p n c]) rfl (by kernel_rfl) (by kernel_rfl) (by kernel_rfl) (fun _ _ _ h => h) (Or.inl ⟨by rfl, fun w' hw' => ?_⟩) (by assumption) ?_
  · obtain ⟨g0, g1, g2⟩ := HBX.out w' hw'.out
    clear hHeld
    go_simp
  simp only [Act.put, List.setIfInBounds_toArray, List.set_cons_zero, List.set_cons_succ]
  refine wpAnyH_take (i := 2) (oi := ⟨some 9, _, _, _, _, _⟩) (v := .agg #[.int .u8 t, .int .u8 r, .slice p n c]) rfl (by kernel_rfl) (by kernel_rfl) (by kernel_rfl) (fun _ _ _ h => h) (Or.inl ⟨by rfl, fun w' hw' => ?_⟩) (by assumption) ?_
  · obtain ⟨g0, g1, g2⟩ := HBX.out w' hw'.out
    clear hHeld
    go_simp
  simp only [Act.put, List.setIfInBounds_toArray, List.set_cons_zero, List.set_cons_succ]
  refine wpAnyH_ready (rs := [1]) (by kernel_rfl) (by simp) (AllReadyH.cons rfl (fun K hK => ?_) AllReadyH.nil)
  go_simp
  go_wp2_with fail
  refine (HOPS.out _ hHeld.out).mono ?_
  rintro e x1 ⟨p1, c1, rfl, hs1, hb1, _⟩
  have hH1 : Hid (Below W0.heap.size W0 x1) := Lib.hid (hHeld.out.trans (hb1.mono hHeld.out.size))
  have HS1 := Lib.hid hs1
  clear hs1 hb1
  go_wp2_with fail
  refine hK.out _ _ hH1 (fun hHeld2 => ?_)
  clear hH1
  clear hK K hHeld
  have hHeld := hHeld2
  clear hHeld2
  refine wpAnyH_ready (rs := [3]) (by kernel_rfl) (by simp) (AllReadyH.cons rfl (fun K hK => ?_) AllReadyH.nil)
  go_simp
  go_wp2_with fail
  refine (HROPS.out _ hHeld.out).mono ?_
  rintro e x2 ⟨p2, c2, rfl, hs2, hb2, _⟩
  have hH2 : Hid (Below W0.heap.size W0 x2) := Lib.hid (hHeld.out.trans (hb2.mono hHeld.out.size))
  have HSM := Lib.hid (rsame_o p1 p2 _ _ c1 c2 V V x2 (HS1.out.later hb2) hs2 HVL.out HVL.out)
  clear hs2 hb2
  go_wp2_with fail
  refine hK.out _ _ hH2 (fun hHeld2 => ?_)
  clear hH2
  clear hK K hHeld
  have hHeld := hHeld2
  clear hHeld2
  have hsm := HSM.out
  simp only [decide_true] at hsm
  refine wpAnyH_ready (rs := [4]) (by kernel_rfl) (by simp) (AllReadyH.cons rfl (fun K hK => ?_) AllReadyH.nil)
  go_simp
  go_wp2_with fail
  refine (hsm).mono ?_
  rintro e x3 ⟨rfl, hb3⟩
  have hH3 : Hid (Below W0.heap.size W0 x3) := Lib.hid (hHeld.out.trans (hb3.mono hHeld.out.size))
  clear hb3 hsm
  go_wp2_with fail
  refine hK.out _ _ hH3 (fun hHeld2 => ?_)
  clear hH3
  clear hK K hHeld
  have hHeld := hHeld2
  clear hHeld2
  refine wpAnyH_take (i := 5) (oi := ⟨some 12, _, _, _, _, _⟩) (v := .bool true) rfl (by kernel_rfl) (by kernel_rfl) (by kernel_rfl) (fun _ _ _ h => h) (Or.inl ⟨by rfl, fun w' hw' => ?_⟩) (by assumption) ?_
  · clear hHeld
    go_simp
  simp only [Act.put, List.setIfInBounds_toArray, List.set_cons_zero, List.set_cons_succ]
  refine wpAnyH_take (i := 6) (oi := ⟨some 13, _, _, _, _, _⟩) (v := .agg #[.int .u8 t, .int .u8 r, .slice p n c]) rfl (by kernel_rfl) (by kernel_rfl) (by kernel_rfl) (fun _ _ _ h => h) (Or.inl ⟨by rfl, fun w' hw' => ?_⟩) (by assumption) ?_
  · obtain ⟨g0, g1, g2⟩ := HBX.out w' hw'.out
    clear hHeld
    go_simp
  simp only [Act.put, List.setIfInBounds_toArray, List.set_cons_zero, List.set_cons_succ]
  refine wpAnyH_take (i := 8) (oi := ⟨some 15, _, _, _, _, _⟩) (v := .agg #[.int .u8 t, .int .u8 r, .slice p n c]) rfl (by kernel_rfl) (by kernel_rfl) (by kernel_rfl) (fun _ _ _ h => h) (Or.inl ⟨by rfl, fun w' hw' => ?_⟩) (by assumption) ?_
  · obtain ⟨g0, g1, g2⟩ := HBX.out w' hw'.out
    clear hHeld
    go_simp
  simp only [Act.put, List.setIfInBounds_toArray, List.set_cons_zero, List.set_cons_succ]
  refine wpAnyH_ready (rs := [7]) (by kernel_rfl) (by simp) (AllReadyH.cons rfl (fun K hK => ?_) AllReadyH.nil)
  go_simp
  go_wp2_with fail
  refine (HUN.out _ hHeld.out).mono ?_
  rintro e x4 ⟨p4, c4, rfl, hs4, hb4, _⟩
  have hH4 : Hid (Below W0.heap.size W0 x4) := Lib.hid (hHeld.out.trans (hb4.mono hHeld.out.size))
  have HS4 := Lib.hid hs4
  clear hs4 hb4
  go_wp2_with fail
  refine hK.out _ _ hH4 (fun hHeld2 => ?_)
  clear hH4
  clear hK K hHeld
  have hHeld := hHeld2
  clear hHeld2
  refine wpAnyH_ready (rs := [9]) (by kernel_rfl) (by simp) (AllReadyH.cons rfl (fun K hK => ?_) AllReadyH.nil)
  go_simp
  go_wp2_with fail
  refine (HRUN.out _ hHeld.out).mono ?_
  rintro e x5 ⟨p5, c5, rfl, hs5, hb5, _⟩
  have hH5 : Hid (Below W0.heap.size W0 x5) := Lib.hid (hHeld.out.trans (hb5.mono hHeld.out.size))
  have HSM5 := Lib.hid (rsame_o p4 p5 _ _ c4 c5 U U x5 (HS4.out.later hb5) hs5 HUL.out HUL.out)
  clear hs5 hb5
  go_wp2_with fail
  refine hK.out _ _ hH5 (fun hHeld2 => ?_)
  clear hH5
  clear hK K hHeld
  have hHeld := hHeld2
  clear hHeld2
  have hsm := HSM5.out
  simp only [decide_true] at hsm
  refine wpAnyH_ready (rs := [10]) (by kernel_rfl) (by simp) (AllReadyH.cons rfl (fun K hK => ?_) AllReadyH.nil)
  go_simp
  go_wp2_with fail
  refine (hsm).mono ?_
  rintro e x6 ⟨rfl, hb6⟩
  have hH6 : Hid (Below W0.heap.size W0 x6) := Lib.hid (hHeld.out.trans (hb6.mono hHeld.out.size))
  clear hb6 hsm
  go_wp2_with fail
  refine hK.out _ _ hH6 (fun hHeld2 => ?_)
  clear hH6
  clear hK K hHeld
  have hHeld := hHeld2
  clear hHeld2
  refine wpAnyH_take (i := 11) (oi := ⟨some 18, _, _, _, _, _⟩) (v := .bool true) rfl (by kernel_rfl) (by kernel_rfl) (by kernel_rfl) (fun _ _ _ h => h) (Or.inl ⟨by rfl, fun w' hw' => ?_⟩) (by assumption) ?_
  · clear hHeld
    go_simp
  simp only [Act.put, List.setIfInBounds_toArray, List.set_cons_zero, List.set_cons_succ]
  refine wpAnyH_take (i := 12) (oi := ⟨some 19, _, _, _, _, _⟩) (v := .bool true) rfl (by kernel_rfl) (by kernel_rfl) (by kernel_rfl) (fun _ _ _ h => h) (Or.inl ⟨by rfl, fun w' hw' => ?_⟩) (by assumption) ?_
  · clear hHeld
    go_simp
  simp only [Act.put, List.setIfInBounds_toArray, List.set_cons_zero, List.set_cons_succ]
  refine wpAnyH_take (i := 13) (oi := ⟨some 20, _, _, _, _, _⟩) (v := .pointer (some ⟨w.heap.size, 0, none⟩)) rfl (by kernel_rfl) (by kernel_rfl) (by kernel_rfl) (fun _ _ _ h => h) (Or.inl ⟨by rfl, fun w' hw' => ?_⟩) (by assumption) ?_
  · clear hHeld
    go_simp
  simp only [Act.put, List.setIfInBounds_toArray, List.set_cons_zero, List.set_cons_succ]
  refine wpAnyH_take (i := 14) (oi := ⟨some 21, _, _, _, _, _⟩) (v := .int .u8 t) rfl (by kernel_rfl) (by kernel_rfl) (by kernel_rfl) (fun _ _ _ h => h) (Or.inl ⟨by rfl, fun w' hw' => ?_⟩) (by assumption) ?_
  · obtain ⟨g0, g1, g2⟩ := HBX.out w' hw'.out
    clear hHeld
    go_simp
  simp only [Act.put, List.setIfInBounds_toArray, List.set_cons_zero, List.set_cons_succ]
  refine wpAnyH_take (i := 16) (oi := ⟨some 23, _, _, _, _, _⟩) (v := .pointer (some ⟨w.heap.size, 0, none⟩)) rfl (by kernel_rfl) (by kernel_rfl) (by kernel_rfl) (fun _ _ _ h => h) (Or.inl ⟨by rfl, fun w' hw' => ?_⟩) (by assumption) ?_
  · clear hHeld
    go_simp
  simp only [Act.put, List.setIfInBounds_toArray, List.set_cons_zero, List.set_cons_succ]
  refine wpAnyH_take (i := 17) (oi := ⟨some 24, _, _, _, _, _⟩) (v := .int .u8 t) rfl (by kernel_rfl) (by kernel_rfl) (by kernel_rfl) (fun _ _ _ h => h) (Or.inl ⟨by rfl, fun w' hw' => ?_⟩) (by assumption) ?_
  · obtain ⟨g0, g1, g2⟩ := HBX.out w' hw'.out
    clear hHeld
    go_simp
  simp only [Act.put, List.setIfInBounds_toArray, List.set_cons_zero, List.set_cons_succ]
  refine wpAnyH_ready (rs := [15]) (by kernel_rfl) (by simp) (AllReadyH.cons rfl (fun K hK => ?_) AllReadyH.nil)
  go_simp
  go_wp2_with fail
  refine (HWD.out _ hHeld.out).mono ?_
  rintro e x7 ⟨rfl, hb7⟩
  have hH7 : Hid (Below W0.heap.size W0 x7) := Lib.hid (hHeld.out.trans (hb7.mono hHeld.out.size))
  clear hb7
  go_wp2_with fail
  refine hK.out _ _ hH7 (fun hHeld2 => ?_)
  clear hH7
  clear hK K hHeld
  have hHeld := hHeld2
  clear hHeld2
  refine wpAnyH_ready (rs := [18]) (by kernel_rfl) (by simp) (AllReadyH.cons rfl (fun K hK => ?_) AllReadyH.nil)
  go_simp
  go_wp2_with fail
  refine (HRWD.out _ hHeld.out).mono ?_
  rintro e x8 ⟨rfl, hb8⟩
  have hH8 : Hid (Below W0.heap.size W0 x8) := Lib.hid (hHeld.out.trans (hb8.mono hHeld.out.size))
  clear hb8
  go_wp2_with fail
  refine hK.out _ _ hH8 (fun hHeld2 => ?_)
  clear hH8
  clear hK K hHeld
  have hHeld := hHeld2
  clear hHeld2
  refine wpAnyH_take (i := 19) (oi := ⟨some 26, _, _, _, _, _⟩) (v := .bool true) rfl (by kernel_rfl) (by kernel_rfl) (by kernel_rfl) (fun _ _ _ h => h) (Or.inl ⟨by rfl, fun w' hw' => ?_⟩) (by assumption) ?_
  · clear hHeld
    go_simp
  simp only [Act.put, List.setIfInBounds_toArray, List.set_cons_zero, List.set_cons_succ]
  refine wpAnyH_take (i := 20) (oi := ⟨some 27, _, _, _, _, _⟩) (v := .bool true) rfl (by kernel_rfl) (by kernel_rfl) (by kernel_rfl) (fun _ _ _ h => h) (Or.inl ⟨by rfl, fun w' hw' => ?_⟩) (by assumption) ?_
  · clear hHeld
    go_simp
  simp only [Act.put, List.setIfInBounds_toArray, List.set_cons_zero, List.set_cons_succ]
  refine wpAnyH_take (i := 21) (oi := ⟨some 28, _, _, _, _, _⟩) (v := .bool true) rfl (by kernel_rfl) (by kernel_rfl) (by kernel_rfl) (fun _ _ _ h => h) (Or.inl ⟨by rfl, fun w' hw' => ?_⟩) (by assumption) ?_
  · clear hHeld
    go_simp
  simp only [Act.put, List.setIfInBounds_toArray, List.set_cons_zero, List.set_cons_succ]
  refine wpAnyH_ready (rs := [22]) (by kernel_rfl) (by simp) (AllReadyH.cons rfl (fun K hK => ?_) AllReadyH.nil)
  go_simp
  go_wp2_with fail
  refine (HWK.out _ hHeld.out).mono ?_
  rintro e x9 ⟨rfl, hb9⟩
  have hH9 : Hid (Below W0.heap.size W0 x9) := Lib.hid (hHeld.out.trans (hb9.mono hHeld.out.size))
  clear hb9
  go_wp2_with fail
  refine hK.out _ _ hH9 (fun hHeld2 => ?_)
  clear hH9
  clear hK K hHeld
  have hHeld := hHeld2
  clear hHeld2
  refine wpAnyH_take (i := 23) (oi := ⟨some 30, _, _, _, _, _⟩) (v := .bool true) rfl (by kernel_rfl) (by kernel_rfl) (by kernel_rfl) (fun _ _ _ h => h) (Or.inl ⟨by rfl, fun w' hw' => ?_⟩) (by assumption) ?_
  · clear hHeld
    go_simp
  simp only [Act.put, List.setIfInBounds_toArray, List.set_cons_zero, List.set_cons_succ]
  refine wpAnyH_take (i := 24) (oi := ⟨some 2, _, _, _, _, _⟩) (v := .bool true) rfl (by kernel_rfl) (by kernel_rfl) (by kernel_rfl) (fun _ _ _ h => h) (Or.inl ⟨by rfl, fun w' hw' => ?_⟩) (by assumption) ?_
  · clear hHeld
    go_simp
  simp only [Act.put, List.setIfInBounds_toArray, List.set_cons_zero, List.set_cons_succ]
  refine wpAnyH_done (by kernel_rfl) ?_ _
  have HFIN := Lib.hid (HB2.out.trans (hHeld.out.mono HB2.out.size))
  clear hHeld
  go_wp2_with fail
  go_ret
  exact ⟨rfl, HFIN.out⟩

set_option maxRecDepth 100000 in
theorem lifted (os : Os) (started : os.Started) (H : Type) (enc : TypeId × Value → H) :
    ReturnsInHanded {} Tryd.checked os 4 .any (fun w args => (Rows.stepDoesSpec.pre enc Tryd.prog Tryd.f4 [] false w args ∧ laidMetH Tryd.prog Rows.stepDoesRow.laid w) ∧ sizedMet enc Tryd.prog Tryd.f4 (OpenSpec.ofChange Rows.stepDoesSpec) false w args) (Rows.stepDoesSpec.post enc Tryd.prog Tryd.f4 false true false false) := by
  refine returnsInHanded_of_change_and (C := Tryd.checked) (X := fun w _ => laidMetH Tryd.prog Rows.stepDoesRow.laid w) (fun _ _ _ hh h => h.of_heap hh) own started (by kernel_rfl) Tryd.func4
    (ChangeSpec.witness_shaped (enc := enc) (C := Tryd.checked) (os := os) (X := fun w _ => laidMetH Tryd.prog Rows.stepDoesRow.laid w) false (World.doorLaid Tryd.prog 400 os) #[.agg #[.int .u8 0, .int .u8 0, .slice none 0 0]] 8 rfl (World.shaped_of_RefB (by kernel_rfl) (by kernel_rfl)) (by kernel_rfl) (by kernel_rfl) (by kernel_rfl) (door_met os _)) ?_
  intro W base args ds gs before hval0 hW _ _ hL _
  have hval : ∀ (j : Nat) t v, Tryd.f4.params[j]? = some t → args[j]? = some v → Value.okWide Tryd.prog W .any base t v := hval0
  have hW' := hW
  obtain ⟨p, q, hA0, hV, rfl, hfz, hnd⟩ := hW
  have hA : DataW.TrodAll enc Tryd.prog W 0 (fun _ => true) true Tryd.f4.params.toList args.toList ds p := hA0
  rw [Tryd.params4] at hA hval
  obtain ⟨v0, vs0, d0, ds0, p0, q0, hargs, rfl, rfl, h0, r0⟩ := trodAll_cons hA
  obtain ⟨rfl, rfl, rfl⟩ := trodAll_nil r0
  obtain rfl : args = #[v0] := by cases args; simp_all
  obtain ⟨rfl, rfl⟩ := trodVars_none hV
  have k0 := h0
  have lt0 : ∀ x ∈ p0, x.block < W.heap.size := by obtain ⟨m, hm⟩ := k0; exact DataW.trod_lt m _ _ _ hm
  obtain ⟨a0, rfl, w0⟩ := open_step (hval 0 24 v0 rfl rfl) h0
  clear hA0 hval0
  refine (walk a0 W (of_laid hL) w0).mono fun e W' ⟨he, bel⟩ => ?_
  subst he
  exact ⟨_, rfl, _, _, _, [], _, [], hW', trodAll_mk1 (shut_bool Tryd.underlying4 _), (trodAll_cons_mk (Below.trod laidOut (by kernel_rfl) (of_decide_eq_true (by kernel_rfl)) k0 bel lt0) trodAll_mk0), rfl, bel.frame _, fun h => by cases h⟩

theorem over : Rows.stepDoesRow.holds Tryd.pinned (OpenSpec.ofChange Rows.stepDoesSpec) :=
  OpenClaim.holds_of_wide 4 Tryd.f4 rfl rfl rfl rfl rfl rfl rfl ⟨rfl, rfl, rfl, rfl, rfl⟩ rfl rfl rfl rfl rfl (by kernel_rfl) Tryd.func4 (by kernel_rfl)
    (of_decide_eq_true (by kernel_rfl)) (by unfold Func.isWrapper; first | (rw [if_pos (by decide +kernel)]; kernel_rfl) | (rw [if_neg (by decide +kernel)]; exact ⟨rfl, rfl⟩))
    (fun os started H enc _ => lifted os started H enc)

theorem proved : Rows.StepDoesCardSaid :=
  Claim7.holds_tied_plain_at .later [] [.data] true (true, "1ea3b0e1f906f0138b000609bc199b793b93454a5936b1b53978e693560eec91") false
    over (fun _ h => by cases h) (by kernel_rfl) (fun _ h => by cases h) stepDoes_row_tie rfl ⟨rfl, rfl⟩ (by kernel_rfl) rfl
    (fun f fn hf hfn => by
      obtain rfl : f = 4 := Option.some.inj ((show Tryd.prog.funcNamed "pledge/pledgelaw12.StepDoes" = some 4 by kernel_rfl).symm.trans hf) |>.symm
      obtain rfl : fn = Tryd.f4 := (Option.some.inj (Tryd.func4.symm.trans hfn)).symm
      exact ⟨by kernel_rfl, fun j t ht => by
        rw [Tryd.params4] at ht
        have hm : t ∈ [24] := by simpa using Array.mem_of_getElem? ht
        have hall : ([24].all fun u => !Tryd.prog.wantsStandIn u) = true := by kernel_rfl
        exact (show Tryd.prog.wantsStandIn t = false by simpa using List.all_eq_true.1 hall t hm)⟩)
    (by kernel_rfl)
#print axioms proved
end Go.Proofs.YtnmdplefedffnaaDoor.stepDoes
