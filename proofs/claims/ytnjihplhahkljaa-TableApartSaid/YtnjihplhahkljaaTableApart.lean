/-
  TableApart answers true of any acts and any more acts, and writes nothing that was there. No condition.
PLAIN4
-/
import Derived.Test.YtnjihplhahkljaaRows
import Derived.Test.YtnjihplhahkljaaTabOpen
import Derived.WalkKit
import Derived.ProofKit
import Derived.OpenShut
import Derived.ShutString
import Derived.ChangeOld
import Derived.Below
namespace Go.Proofs.Ytnjihplhahkljaa.tableApart
open Go.ChangeShapes Go.WideShapes Go.ChangeAt Go.RowKit
open Go.ChangeMaps (open_string shut_string)
set_option linter.unusedVariables false

theorem own : ownKnob Try.prog.godebug = none := by kernel_rfl
theorem laidOut : laidOutB Try.prog = true := by kernel_rfl

set_option maxHeartbeats 1000000 in
set_option maxRecDepth 100000 in
theorem walk (a0 : Option Addr) (len0 cap0 : Nat) (L0 : List Ac) (a1 : Option Addr) (len1 cap1 : Nat) (L1 : List Ac) (w : World) (w0 : AL w a0 len0 cap0 L0 ∧ ∀ y ∈ L0, Aok y) (w1 : AL w a1 len1 cap1 L1 ∧ ∀ y ∈ L1, Aok y) :
    Calls Try.prog 5 #[.slice a0 len0 cap0, .slice a1 len1 cap1] w fun e w' => e = .returned (.bool true) ∧ Below w.heap.size w w' := by
  obtain ⟨hA, hok⟩ := w0
  obtain ⟨hA1, hok1⟩ := w1
  have hmd := made_any w a0 len0 cap0 L0 hA hok
  have HL := Lib.hid hA1
  have HOK : Hid (∀ j, j < len1 → Aok (L1.getD j ((0, 0, 0), 0, false))) := Lib.hid fun j hj => by
    rw [List.getD, List.getElem?_eq_getElem (by rw [hA1.len]; exact hj)]
    exact hok1 _ (List.getElem_mem _)
  clear hA hok hA1 hok1
  go_enter Try.func5, Try.ntmps5
  go_wp2_with fail
  refine hmd.mono ?_
  rintro e W1 ⟨mb, M, rp, rcap, rfl, hp, hm60, hb1⟩
  have HB1 := Lib.hid hb1
  have HT1 := Lib.hid hp.tab
  have HR1 := Lib.hid hp.row
  have HM60 := Lib.hid hm60
  have hcu := copy_any W1 w.heap.size mb M hp.tab
  clear hmd hp hb1 hm60
  go_wp2_with fail
  refine hcu.mono ?_
  rintro e W2 ⟨Bu, mu0, rfl, htu, hfu, hb2⟩
  have HT20 := Lib.hid htu
  have HF20 := Lib.hid hfu
  have HB20 := Lib.hid hb2
  clear hcu htu hfu hb2
  go_wp2_with fail
  go_loopw [9] (fun i wr => ∃ (j : Nat) (mu : Option Nat) (Mu : List Rw), j ≤ len1 ∧ j ≤ 60 ∧ i = .int .i64 (j : Nat) ∧ Mu.length ≤ 60 + j ∧ Hid (Tab wr Bu mu Mu) ∧ Hid (∀ k, foot Bu mu k → W1.heap.size ≤ k) ∧ Hid (Below W1.heap.size W1 wr)) (fun i _ => len1 - (intOf i).toNat)
  case atStart => exact ⟨0, mu0, M, Nat.zero_le _, Nat.zero_le _, rfl, HM60.out, HT20, HF20, HB20⟩
  case round =>
    obtain ⟨j, mu, Mu, hj, hj60, rfl, hMu, HTu, HFu, HBr⟩ := hrel
    by_cases hlt : j < len1
    · have hlt' : (j : Int) < len1 := by omega
      by_cases hlt6 : j < 60
      · have hlt6' : (j : Int) < 60 := by omega
        have hxok := HOK.out j hlt
        have HBw := Lib.hid (HB1.out.trans (HBr.out.mono HB1.out.size))
        obtain ⟨b, off, rfl, _, c0, c1, c2, c3, c4⟩ := act_cells (HL.out.later HBw.out) hlt
        generalize L1.getD j ((0, 0, 0), 0, false) = x at *
        have HXK := Lib.hid hxok.1
        have HXV := Lib.hid hxok.2
        clear hxok
        cases hgone : x.2.2 with
        | true =>
          rw [hgone] at c4
          have hd := del_any x.1 HXK.out wr Bu mu Mu HTu.out
          have hlen := len_del_le Mu x.1
          go_wp2_with fail
          refine hd.mono ?_
          rintro e W3 ⟨rfl, ht3, hu3⟩
          have HT3 := Lib.hid ht3
          have HB3 := Lib.hid (HBr.out.trans (hu3.below HBr.out.size HFu.out))
          clear hd ht3 hu3 c0 c1 c2 c3 c4
          go_wp2_with fail
          go_roundw
          case rel => exact ⟨j + 1, mu, delM Mu x.1, by omega, by omega, by go_num, by omega, HT3, HFu, HB3⟩
          case measure => simp [intOf]; omega
        | false =>
          rw [hgone] at c4
          have hp := put_any x.1 HXK.out x.2.1 HXV.out wr.drew Bu mu Mu (HTu.out.later (Below.refl _ _).drew) (by omega)
          have hlen := len_put Mu x.1 x.2.1
          go_wp2_with fail
          go_still_tail 11, (by kernel_rfl)
          repeat still_step
          change wpList _ _ _ _ _ wr.drew
          go_wp2_with fail
          refine hp.mono ?_
          rintro e W3 ⟨rfl, mu3, ht3, hf3, hu3⟩
          have HT3 := Lib.hid ht3
          have HB3 := Lib.hid (HBr.out.drew.trans (hu3.below HBr.out.size HFu.out))
          have HF3 : Hid (∀ k, foot Bu mu3 k → W1.heap.size ≤ k) := Lib.hid fun k hk => by
            rcases hk with rfl | hk
            · exact HFu.out _ (.inl rfl)
            · rcases hf3 with rfl | ⟨b3, hb3, hle⟩
              · exact HFu.out k (.inr hk)
              · rw [hb3] at hk
                cases hk
                exact Nat.le_trans HBr.out.size hle
          clear hp ht3 hf3 hu3 c0 c1 c2 c3 c4
          go_wp2_with fail
          go_roundw
          case rel => exact ⟨j + 1, mu3, putM Mu x.1 x.2.1, by omega, by omega, by go_num, by omega, HT3, HF3, HB3⟩
          case measure => simp [intOf]; omega
      · obtain rfl : j = 60 := by omega
        have HT := Lib.hid (HT1.out.later HBr.out)
        have HR := Lib.hid (HR1.out.later HBr.out)
        have HBw := Lib.hid (HB1.out.trans (HBr.out.mono HB1.out.size))
        have hcp := copy_any wr w.heap.size mb M HT.out
        clear HTu HFu
        go_wp2_with fail
        refine hcp.mono ?_
        rintro e W4 ⟨Bv, mv, rfl, htv, hfv, hb4⟩
        have HTv := Lib.hid htv
        have HB4 := Lib.hid (HBw.out.trans (hb4.mono HBw.out.size))
        have hs1 := same_true W4 w.heap.size mb M rp M.length rcap (HT.out.later hb4) (HR.out.later hb4) (by have := HM60.out; omega)
        have HR4 := Lib.hid (HR.out.later hb4)
        clear hcp htv hfv hb4
        go_wp2_with fail
        refine hs1.mono ?_
        rintro e W5 ⟨rfl, hb5⟩
        have HB5 := Lib.hid (HB4.out.trans (hb5.mono HB4.out.size))
        have hs2 := same_true W5 Bv mv M rp M.length rcap (HTv.out.later hb5) (HR4.out.later hb5) (by have := HM60.out; omega)
        clear hs1 hb5
        go_wp2_with fail
        refine hs2.mono ?_
        rintro e W6 ⟨rfl, hb6⟩
        have HB6 := Lib.hid (HB5.out.trans (hb6.mono HB5.out.size))
        clear hs2 hb6
        go_wp2_with fail
        refine (tab_works _).mono ?_
        rintro e W7 ⟨rfl, hb7⟩
        have HB7 := Lib.hid (HB6.out.trans (hb7.mono HB6.out.size))
        clear hb7
        go_wp2_with fail
        go_ret
        exact ⟨rfl, HB7.out⟩
    · obtain rfl : len1 = j := by omega
      have HT := Lib.hid (HT1.out.later HBr.out)
      have HR := Lib.hid (HR1.out.later HBr.out)
      have HBw := Lib.hid (HB1.out.trans (HBr.out.mono HB1.out.size))
      have hcp := copy_any wr w.heap.size mb M HT.out
      clear HTu HFu
      go_wp2_with fail
      refine hcp.mono ?_
      rintro e W4 ⟨Bv, mv, rfl, htv, hfv, hb4⟩
      have HTv := Lib.hid htv
      have HB4 := Lib.hid (HBw.out.trans (hb4.mono HBw.out.size))
      have hs1 := same_true W4 w.heap.size mb M rp M.length rcap (HT.out.later hb4) (HR.out.later hb4) (by have := HM60.out; omega)
      have HR4 := Lib.hid (HR.out.later hb4)
      clear hcp htv hfv hb4
      go_wp2_with fail
      refine hs1.mono ?_
      rintro e W5 ⟨rfl, hb5⟩
      have HB5 := Lib.hid (HB4.out.trans (hb5.mono HB4.out.size))
      have hs2 := same_true W5 Bv mv M rp M.length rcap (HTv.out.later hb5) (HR4.out.later hb5) (by have := HM60.out; omega)
      clear hs1 hb5
      go_wp2_with fail
      refine hs2.mono ?_
      rintro e W6 ⟨rfl, hb6⟩
      have HB6 := Lib.hid (HB5.out.trans (hb6.mono HB5.out.size))
      clear hs2 hb6
      go_wp2_with fail
      refine (tab_works _).mono ?_
      rintro e W7 ⟨rfl, hb7⟩
      have HB7 := Lib.hid (HB6.out.trans (hb7.mono HB6.out.size))
      clear hb7
      go_wp2_with fail
      go_ret
      exact ⟨rfl, HB7.out⟩

set_option maxRecDepth 100000 in
theorem lifted (os : Os) (started : os.Started) (H : Type) (enc : TypeId × Value → H) :
    ReturnsInHanded {} Try.checked os 5 .any (Rows.tableApartSpec.pre6 enc Try.prog Try.f5 Rows.tableApartRow.domain false) (Rows.tableApartSpec.post enc Try.prog Try.f5 false true false false) := by
  refine returnsInHanded_of_change (C := Try.checked) own started (by kernel_rfl) Try.func5
    (ChangeSpec.witness6 (enc := enc) (C := Try.checked) false ⟨#[], #[.slice none 0 0, .slice none 0 0], []⟩ 8 (by kernel_rfl) (by kernel_rfl) (by kernel_rfl) (by kernel_rfl)) ?_
  intro W base args ds gs before hval0 hW hcnd _
  have hval : ∀ (j : Nat) t v, Try.f5.params[j]? = some t → args[j]? = some v → Value.okWide Try.prog W .any base t v := hval0
  have hW' := hW
  obtain ⟨p, q, hA0, hV, rfl, hfz, hnd⟩ := hW
  have hA : DataW.TrodAll enc Try.prog W 0 (fun _ => true) true Try.f5.params.toList args.toList ds p := hA0
  rw [Try.params5] at hA hval
  obtain ⟨v0, vs0, d0, ds0, p0, q0, hargs, rfl, rfl, h0, r0⟩ := trodAll_cons hA
  obtain ⟨v1, vs1, d1, ds1, p1, q1, rfl, rfl, rfl, h1, r1⟩ := trodAll_cons r0
  obtain ⟨rfl, rfl, rfl⟩ := trodAll_nil r1
  obtain rfl : args = #[v0, v1] := by cases args; simp_all
  obtain ⟨rfl, rfl⟩ := trodVars_none hV
  obtain ⟨a0, len0, cap0, rfl⟩ := okWide_slice Try.underlying22 (hval 0 22 v0 rfl rfl)
  have k0 := h0
  have lt0 : ∀ x ∈ p0, x.block < W.heap.size := by obtain ⟨m, hm⟩ := k0; exact DataW.trod_lt m _ _ _ hm
  obtain ⟨L0, w0⟩ : ∃ L, AL W a0 len0 cap0 L ∧ ∀ y ∈ L, Aok y := by
    obtain ⟨fuel, hf⟩ := h0
    exact open_acts hf
  obtain ⟨a1, len1, cap1, rfl⟩ := okWide_slice Try.underlying22 (hval 1 22 v1 rfl rfl)
  have k1 := h1
  have lt1 : ∀ x ∈ p1, x.block < W.heap.size := by obtain ⟨m, hm⟩ := k1; exact DataW.trod_lt m _ _ _ hm
  obtain ⟨L1, w1⟩ : ∃ L, AL W a1 len1 cap1 L ∧ ∀ y ∈ L, Aok y := by
    obtain ⟨fuel, hf⟩ := h1
    exact open_acts hf
  clear hA0 hval0
  refine (walk a0 len0 cap0 L0 a1 len1 cap1 L1 W w0 w1).mono fun e W' ⟨he, bel⟩ => ?_
  subst he
  exact ⟨_, rfl, _, _, _, [], _, [], hW', trodAll_mk1 (shut_bool Try.underlying4 _), (trodAll_cons_mk (Below.trod laidOut (by kernel_rfl) (of_decide_eq_true (by kernel_rfl)) k0 bel lt0) (trodAll_cons_mk (Below.trod laidOut (by kernel_rfl) (of_decide_eq_true (by kernel_rfl)) k1 bel lt1) trodAll_mk0)), rfl, bel.frame _, fun h => by cases h⟩

theorem over : Rows.tableApartRow.holds Try.pinned (OpenSpec.ofChange Rows.tableApartSpec) :=
  OpenClaim.holds_of_wide 5 Try.f5 rfl rfl rfl rfl rfl rfl rfl ⟨rfl, rfl, rfl, rfl, rfl⟩ rfl rfl rfl rfl rfl (by kernel_rfl) Try.func5 (by kernel_rfl)
    (of_decide_eq_true (by kernel_rfl)) (by unfold Func.isWrapper; first | (rw [if_pos (by decide +kernel)]; kernel_rfl) | (rw [if_neg (by decide +kernel)]; exact ⟨rfl, rfl⟩))
    (fun os started H enc _ => lifted os started H enc)

theorem proved : Rows.TableApartSaid := over
#print axioms proved
end Go.Proofs.Ytnjihplhahkljaa.tableApart
