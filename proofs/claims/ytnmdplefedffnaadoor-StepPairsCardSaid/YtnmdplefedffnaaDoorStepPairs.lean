/-
  StepPairs answers true of any warehouse and any items, and writes nothing that was there: the tied card. No condition but the card's own: the words of the tags lie as the program's text lays them.
DOOR5
DOOR: Words of_laid door_met
HEARTS 4000000
-/
import Derived.Test.YtnmdplefedffnaaDoorRows
import Derived.Test.YtnmdplefedffnaaDoorCards
import Derived.Test.YtnmdplefedffnaaDoorTie
import Derived.SevenTiedAt
import Derived.Stop.Joined
import Derived.Test.YtnmdplefedffnaaDoorStepAll
import Derived.Test.YtnmdplefedffnaaDoorStepWorks
import Derived.WalkKit
import Derived.ProofKit
import Derived.OpenShut
import Derived.ShutString
import Derived.ChangeOld
import Derived.Below
namespace Go.Proofs.YtnmdplefedffnaaDoor.stepPairs
open Go.ChangeShapes Go.WideShapes Go.ChangeAt Go.RowKit
open Go.ChangeMaps (open_string shut_string)
set_option linter.unusedVariables false

theorem own : ownKnob Tryd.prog.godebug = none := by kernel_rfl
theorem laidOut : laidOutB Tryd.prog = true := by kernel_rfl
theorem min_of (len B : Nat) : ∃ k : Nat, min (len : Int) (B : Int) = (k : Int) ∧ k ≤ len ∧ k ≤ B := ⟨min len B, by omega, Nat.min_le_left .., Nat.min_le_right ..⟩
theorem take_ok {L : List Ln} (h : ∀ o ∈ L, Lnok o) (k : Nat) : ∀ o ∈ L.take k, Lnok o := fun o ho => h o (List.mem_of_mem_take ho)
theorem tl_lit (w : World) (T : List Int) (n : Nat) (hn : T.length = n) (h4 : n ≤ 4) : TL (w.alloc (.cells (T.map fun z => Value.int .u8 z).toArray 5)) (some ⟨w.heap.size, 0, none⟩) n n T := by
  have hr := alloc_block w (.cells (T.map fun z => Value.int .u8 z).toArray 5)
  refine ⟨hn, Nat.le_refl _, by unfold maxLen; omega, (fun h => by cases h), fun _ => ⟨_, 0, rfl, block_lt hr, fun j hj i v hv => ?_⟩⟩
  have hi : i < 1 := (List.getElem?_eq_some_iff.1 hv).1
  obtain rfl : i = 0 := by omega
  refine block_cell hr ?_
  have hv' : Value.int .u8 (T.getD j 0) = v := by simpa [tc] using hv
  rw [← hv']
  simp [List.getD, List.getElem?_eq_getElem (show j < T.length by omega)]

set_option maxHeartbeats 4000000 in
set_option maxRecDepth 100000 in
theorem walk (a0 : Int) (a1 : Option Addr) (len1 cap1 : Nat) (L1 : List Ln) (w : World) (hv : Words w) (w0 : (Lit.int .u8 a0).wf = true) (w1 : LL w a1 len1 cap1 L1 ∧ ∀ y ∈ L1, Lnok y) :
    Calls Tryd.prog 7 #[.int .u8 a0, .slice a1 len1 cap1] w fun e w' => e = .returned (.bool true) ∧ Below w.heap.size w w' := by
  obtain ⟨hA, hok⟩ := w1
  have hr := bounds_u8 w0
  obtain ⟨k0, hk0, hl0, hb0⟩ : ∃ k : Nat, min (len1 : Int) 20 = (k : Int) ∧ k ≤ len1 ∧ k ≤ 20 := min_of len1 20
  have hL := hA.take k0 hl0
  have hkT := take_ok hok k0
  have hlc := hA.cap
  generalize L1.take k0 = L at *
  have HL := Lib.hid hL
  have HOK := Lib.hid hkT
  have HR := Lib.hid hr
  have HV := Lib.hid hv
  clear hv hA hok hL hkT w0 hr
  have ha : ∃ W2, (w.alloc (.cells #[.int .u8 a0] 5)).alloc (.cells #[.slice a1 k0 cap1] 22) = W2 ∧ W2.heap.size = w.heap.size + 1 + 1 ∧ W2.cell? ⟨w.heap.size, 0, none⟩ = some (.int .u8 a0) ∧ W2.cell? ⟨w.heap.size + 1, 0, none⟩ = some (.slice a1 k0 cap1) ∧ Below w.heap.size w W2 := by
    refine ⟨_, rfl, by simp, ?_, ?_, ((Below.refl _ _).alloc (Nat.le_refl _) _).alloc (by simp) _⟩
    · exact block_cell ((Below.heap_alloc _ _ _ (by simp)).trans (alloc_block w _)) rfl
    · have := alloc_block (w.alloc (.cells #[.int .u8 a0] 5)) (.cells #[.slice a1 k0 cap1] 22)
      rw [World.size_alloc] at this
      exact block_cell this rfl
  obtain ⟨W2, hW2, hs2, hcw, hci, hb⟩ := ha
  have HW := Lib.hid hW2
  have HS := Lib.hid hs2
  have HB := Lib.hid hb
  have HV2 := Lib.hid (HV.out.later hb)
  have hcall : ∀ (w' : World), Below W2.heap.size W2 w' → ∀ (T : List Int) (m : Nat), T.length = m → m ≤ 4 → netV (tagsS T a0 L) = [] ∧ netB (tagsS T a0 L) = true →
      Calls Tryd.prog 23 #[.slice (some ⟨w'.heap.size, 0, none⟩) m m, .pointer (some ⟨w.heap.size, 0, none⟩), .pointer (some ⟨w.heap.size + 1, 0, none⟩)] (w'.alloc (.cells (T.map fun z => Value.int .u8 z).toArray 5)) fun e w'' => e = .returned (.bool true) ∧ Below W2.heap.size W2 w'' := by
    intro w' hb' T m hm h4 hnet
    have hba := hb'.alloc hb'.size (.cells (T.map fun z => Value.int .u8 z).toArray 5)
    refine (all_tags T _ m m a0 a1 k0 cap1 L _ w.heap.size (w.heap.size + 1) (tl_lit w' T m hm h4) ?_ ?_ ((HL.out.later hb).later hba) HOK.out HR.out hb0 h4 hnet).mono ?_
    · exact (hba.cell (World.block_lt_of_cell? _ _ hcw)).trans hcw
    · exact (hba.cell (World.block_lt_of_cell? _ _ hci)).trans hci
    · rintro e w'' ⟨he, h⟩
      exact ⟨he, hba.trans (h.mono hba.size)⟩
  have c1 : Calls Tryd.prog 23 #[.slice (some ⟨W2.heap.size, 0, none⟩) 2 2, .pointer (some ⟨w.heap.size, 0, none⟩), .pointer (some ⟨w.heap.size + 1, 0, none⟩)] (W2.alloc (.cells #[.int .u8 1, .int .u8 2] 5)) fun e w'' => e = .returned (.bool true) ∧ Below W2.heap.size W2 w'' := hcall W2 (Below.refl _ _) [1, 2] 2 rfl (by omega) (take_free a0 L)
  rw [hs2] at c1
  have C2 : Hid (∀ w', Below W2.heap.size W2 w' → Calls Tryd.prog 23 #[.slice (some ⟨w'.heap.size, 0, none⟩) 2 2, .pointer (some ⟨w.heap.size, 0, none⟩), .pointer (some ⟨w.heap.size + 1, 0, none⟩)] (w'.alloc (.cells #[.int .u8 5, .int .u8 6] 5)) fun e w'' => e = .returned (.bool true) ∧ Below W2.heap.size W2 w'') := Lib.hid fun w' h => hcall w' h [5, 6] 2 rfl (by omega) (put_draw a0 L)
  have C3 : Hid (∀ w', Below W2.heap.size W2 w' → Calls Tryd.prog 23 #[.slice (some ⟨w'.heap.size, 0, none⟩) 2 2, .pointer (some ⟨w.heap.size, 0, none⟩), .pointer (some ⟨w.heap.size + 1, 0, none⟩)] (w'.alloc (.cells #[.int .u8 7, .int .u8 8] 5)) fun e w'' => e = .returned (.bool true) ∧ Below W2.heap.size W2 w'') := Lib.hid fun w' h => hcall w' h [7, 8] 2 rfl (by omega) (owe_pay a0 L)
  have C4 : Hid (∀ w', Below W2.heap.size W2 w' → Calls Tryd.prog 23 #[.slice (some ⟨w'.heap.size, 0, none⟩) 3 3, .pointer (some ⟨w.heap.size, 0, none⟩), .pointer (some ⟨w.heap.size + 1, 0, none⟩)] (w'.alloc (.cells #[.int .u8 1, .int .u8 3, .int .u8 4] 5)) fun e w'' => e = .returned (.bool true) ∧ Below W2.heap.size W2 w'') := Lib.hid fun w' h => hcall w' h [1, 3, 4] 3 rfl (by omega) (take_send_back a0 L)
  have C1 := Lib.hid c1
  clear c1 hcall hcw hci hb hs2 hW2 HL HOK HR HV
  go_enter Tryd.func7, Tryd.ntmps7
  go_wp2_with fail
  rw [HW.out]
  refine C1.out.mono ?_
  rintro e w3 ⟨rfl, h3⟩
  have HB3 : Hid (Below W2.heap.size W2 w3) := Lib.hid (by rw [HS.out]; exact h3)
  clear h3
  go_wp2_with fail
  refine (C2.out _ HB3.out).mono ?_
  rintro e w4 ⟨rfl, h4⟩
  have HB4 := Lib.hid h4
  clear h4
  go_wp2_with fail
  refine (C3.out _ HB4.out).mono ?_
  rintro e w5 ⟨rfl, h5⟩
  have HB5 := Lib.hid h5
  clear h5
  go_wp2_with fail
  refine (C4.out _ HB5.out).mono ?_
  rintro e w6 ⟨rfl, h6⟩
  have HB6 := Lib.hid h6
  have HV6 := Lib.hid (HV2.out.later h6)
  clear h6
  go_wp2_with fail
  refine (step_works _ HV6.out).mono ?_
  rintro e w7 ⟨rfl, h7⟩
  have HB7 := Lib.hid (HB6.out.trans (h7.mono HB6.out.size))
  clear h7
  go_wp2_with fail
  go_ret
  exact ⟨rfl, HB.out.trans (HB7.out.mono HB.out.size)⟩

set_option maxRecDepth 100000 in
theorem lifted (os : Os) (started : os.Started) (H : Type) (enc : TypeId × Value → H) :
    ReturnsInHanded {} Tryd.checked os 7 .any (fun w args => (Rows.stepPairsSpec.pre enc Tryd.prog Tryd.f7 [] false w args ∧ laidMetH Tryd.prog Rows.stepPairsRow.laid w) ∧ sizedMet enc Tryd.prog Tryd.f7 (OpenSpec.ofChange Rows.stepPairsSpec) false w args) (Rows.stepPairsSpec.post enc Tryd.prog Tryd.f7 false true false false) := by
  refine returnsInHanded_of_change_and (C := Tryd.checked) (X := fun w _ => laidMetH Tryd.prog Rows.stepPairsRow.laid w) (fun _ _ _ hh h => h.of_heap hh) own started (by kernel_rfl) Tryd.func7
    (ChangeSpec.witness_shaped (enc := enc) (C := Tryd.checked) (os := os) (X := fun w _ => laidMetH Tryd.prog Rows.stepPairsRow.laid w) false (World.doorLaid Tryd.prog 400 os) #[.int .u8 0, .slice none 0 0] 8 rfl (World.shaped_of_RefB (by kernel_rfl) (by kernel_rfl)) (by kernel_rfl) (by kernel_rfl) (by kernel_rfl) (door_met os _)) ?_
  intro W base args ds gs before hval0 hW _ _ hL _
  have hval : ∀ (j : Nat) t v, Tryd.f7.params[j]? = some t → args[j]? = some v → Value.okWide Tryd.prog W .any base t v := hval0
  have hW' := hW
  obtain ⟨p, q, hA0, hV, rfl, hfz, hnd⟩ := hW
  have hA : DataW.TrodAll enc Tryd.prog W 0 (fun _ => true) true Tryd.f7.params.toList args.toList ds p := hA0
  rw [Tryd.params7] at hA hval
  obtain ⟨v0, vs0, d0, ds0, p0, q0, hargs, rfl, rfl, h0, r0⟩ := trodAll_cons hA
  obtain ⟨v1, vs1, d1, ds1, p1, q1, rfl, rfl, rfl, h1, r1⟩ := trodAll_cons r0
  obtain ⟨rfl, rfl, rfl⟩ := trodAll_nil r1
  obtain rfl : args = #[v0, v1] := by cases args; simp_all
  obtain ⟨rfl, rfl⟩ := trodVars_none hV
  have k0 := h0
  have lt0 : ∀ x ∈ p0, x.block < W.heap.size := by obtain ⟨m, hm⟩ := k0; exact DataW.trod_lt m _ _ _ hm
  obtain ⟨a0, rfl, rfl, rfl, w0⟩ := open_int Tryd.underlying5 (hval 0 5 v0 rfl rfl) h0
  obtain ⟨a1, len1, cap1, rfl⟩ := okWide_slice Tryd.underlying22 (hval 1 22 v1 rfl rfl)
  have k1 := h1
  have lt1 : ∀ x ∈ p1, x.block < W.heap.size := by obtain ⟨m, hm⟩ := k1; exact DataW.trod_lt m _ _ _ hm
  obtain ⟨L1, w1⟩ : ∃ L, LL W a1 len1 cap1 L ∧ ∀ y ∈ L, Lnok y := by
    obtain ⟨fuel, hf⟩ := h1
    exact open_lines hf
  clear hA0 hval0
  refine (walk a0 a1 len1 cap1 L1 W (of_laid hL) w0 w1).mono fun e W' ⟨he, bel⟩ => ?_
  subst he
  exact ⟨_, rfl, _, _, _, [], _, [], hW', trodAll_mk1 (shut_bool Tryd.underlying4 _), (trodAll_cons_mk (Below.trod laidOut (by kernel_rfl) (of_decide_eq_true (by kernel_rfl)) k0 bel lt0) (trodAll_cons_mk (Below.trod laidOut (by kernel_rfl) (of_decide_eq_true (by kernel_rfl)) k1 bel lt1) trodAll_mk0)), rfl, bel.frame _, fun h => by cases h⟩

theorem over : Rows.stepPairsRow.holds Tryd.pinned (OpenSpec.ofChange Rows.stepPairsSpec) :=
  OpenClaim.holds_of_wide 7 Tryd.f7 rfl rfl rfl rfl rfl rfl rfl ⟨rfl, rfl, rfl, rfl, rfl⟩ rfl rfl rfl rfl rfl (by kernel_rfl) Tryd.func7 (by kernel_rfl)
    (of_decide_eq_true (by kernel_rfl)) (by unfold Func.isWrapper; first | (rw [if_pos (by decide +kernel)]; kernel_rfl) | (rw [if_neg (by decide +kernel)]; exact ⟨rfl, rfl⟩))
    (fun os started H enc _ => lifted os started H enc)

theorem proved : Rows.StepPairsCardSaid :=
  Claim7.holds_tied_plain_at .later [] [.data] true (true, "1ea3b0e1f906f0138b000609bc199b793b93454a5936b1b53978e693560eec91") false
    over (fun _ h => by cases h) (by kernel_rfl) (fun _ h => by cases h) stepPairs_row_tie rfl ⟨rfl, rfl⟩ (by kernel_rfl) rfl
    (fun f fn hf hfn => by
      obtain rfl : f = 7 := Option.some.inj ((show Tryd.prog.funcNamed "pledge/pledgelaw12.StepPairs" = some 7 by kernel_rfl).symm.trans hf) |>.symm
      obtain rfl : fn = Tryd.f7 := (Option.some.inj (Tryd.func7.symm.trans hfn)).symm
      exact ⟨by kernel_rfl, fun j t ht => by
        rw [Tryd.params7] at ht
        have hm : t ∈ [5, 22, 22] := by simpa using Array.mem_of_getElem? ht
        have hall : ([5, 22, 22].all fun u => !Tryd.prog.wantsStandIn u) = true := by kernel_rfl
        exact (show Tryd.prog.wantsStandIn t = false by simpa using List.all_eq_true.1 hall t hm)⟩)
    (by kernel_rfl)
#print axioms proved
end Go.Proofs.YtnmdplefedffnaaDoor.stepPairs
