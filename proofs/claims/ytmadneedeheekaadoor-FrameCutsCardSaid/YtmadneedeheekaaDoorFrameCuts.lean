/-
  FrameCuts answers true of any lists of bytes, cut off anywhere, and writes nothing that was there: the tied card. No condition but the card's own: the table of half a byte's moves lies as the program's text lays it.
DOOR5
DOOR: Tab of_laid door_met
HEARTS 4000000
-/
import Derived.Test.YtmadneedeheekaaDoorRows
import Derived.Test.YtmadneedeheekaaDoorCards
import Derived.Test.YtmadneedeheekaaDoorTie
import Derived.SevenTiedAt
import Derived.Stop.Joined
import Derived.Test.YtmadneedeheekaaDoorFrameOpen
import Derived.BigQuiet
import Derived.WalkKit
import Derived.ProofKit
import Derived.OpenShut
import Derived.ShutString
import Derived.ChangeOld
import Derived.Below
namespace Go.Proofs.YtmadneedeheekaaDoor.frameCuts
open Go.ChangeShapes Go.WideShapes Go.ChangeAt Go.RowKit
open Go.ChangeMaps (open_string shut_string)
set_option linter.unusedVariables false

theorem own : ownKnob Tryd.prog.godebug = none := by kernel_rfl
theorem laidOut : laidOutB Tryd.prog = true := by kernel_rfl

set_option maxHeartbeats 4000000 in
set_option maxRecDepth 100000 in
theorem walk (a0 : Option Addr) (len0 cap0 : Nat) (L0 : List ListN) (a1 : Int) (w : World) (hv : Tab w) (w0 : LSx w a0 len0 cap0 L0 ∧ ∀ y ∈ L0, AnyL y) (w1 : (Lit.int .u16 a1).wf = true) :
    Calls Tryd.prog 5 #[.slice a0 len0 cap0, .int .u16 a1] w fun e w' => e = .returned (.bool true) ∧ Below w.heap.size w w' := by
  have HT := Lib.hid hv
  clear hv
  obtain ⟨⟨H0, hL⟩, _⟩ := w0
  have HLL := Lib.hid hL
  have hb16 := bounds_u16 w1
  clear hL
  obtain ⟨cut, rfl⟩ : ∃ c : Nat, a1 = (c : Int) := ⟨a1.toNat, by omega⟩
  obtain ⟨G, hG⟩ : ∃ G, put L0 (min len0 12) = G := ⟨_, rfl⟩
  have HGG : Hid (∀ P ∈ G, good P = true) := Lib.hid (hG ▸ put_good L0 _)
  have hG12 : G.length ≤ 12 := by
    rw [← hG]
    exact Nat.le_trans (put_few L0 _) (Nat.min_le_right _ _)
  have hA12 : (flat G).length ≤ 518 * 12 := by
    rw [← endAt_all]
    exact Nat.le_trans (endAt_few G HGG.out _) (Nat.mul_le_mul_left _ hG12)
  have HFR := Lib.hid (framed_any a0 len0 cap0 H0 L0 w HLL.out HT.out)
  rw [hG] at HFR
  clear hG HLL
  go_enter Tryd.func5, Tryd.ntmps5
  go_wp2_with fail
  refine HFR.out.mono ?_
  rintro e w1 ⟨pa, ca, pp, cp, pe, ce, H, rfl, hsa, hca, hsp, hse, hb1⟩
  have HSA := Lib.hid hsa
  have HCA := Lib.hid hca
  have HSP := Lib.hid hsp
  have HSE := Lib.hid hse
  have HB1 := Lib.hid hb1
  have hcc := hsa.cap
  have hcp := hsp.row.cap
  unfold maxLen at hca
  clear hsa hsp hse hb1 HFR
  obtain ⟨m, hm, hm2⟩ : ∃ m : Nat, (cut : Int) % (((flat G).length : Int) + 1) = (m : Int) ∧ m ≤ (flat G).length := ⟨cut % ((flat G).length + 1), by rw [Int.natCast_emod, Int.natCast_add]; rfl, by have := Nat.mod_lt cut (show (flat G).length + 1 > 0 by omega); omega⟩
  have HCUT := Lib.hid (scan_cut G HGG.out m hm2)
  generalize hna : (flat G).length = nA at *
  generalize hng : G.length = nG at *
  have HNA := Lib.hid hna
  have HNG := Lib.hid hng
  clear hna hng
  go_wp2_with fail
  go_loopw [9, 10, 11] (fun wh la i wr => ∃ j k x : Nat, wh = .int .i64 (k : Nat) ∧ la = .int .i64 (x : Nat) ∧ i = .int .i64 (j : Nat) ∧ j ≤ nG ∧ k ≤ j ∧ x ≤ m ∧ Hid (x = endAt G k ∧ (k < j → m < endAt G (k + 1))) ∧ Hid (Below w1.heap.size w1 wr)) (fun _ _ i _ => nG - (intOf i).toNat)
  case atStart => exact ⟨0, 0, 0, rfl, rfl, rfl, Nat.zero_le _, Nat.le_refl _, Nat.zero_le _, Lib.hid ⟨rfl, fun h => absurd h (Nat.lt_irrefl _)⟩, Lib.hid (Below.refl _ _)⟩
  case round =>
    obtain ⟨j, k, x, rfl, rfl, rfl, hj, hkj, hx, HX, HBr⟩ := hrel
    by_cases hlt : j < nG
    · obtain ⟨b, off, hp, hbl, hc⟩ := HSE.out.cell (by omega)
      subst hp
      have hcj := hc j hlt 0 _ rfl
      rw [endsL_at G j (by rw [HNG.out]; exact hlt), Nat.mul_one, Nat.add_zero] at hcj
      replace hcj := (HBr.out.cell (p := ⟨b, off + j, none⟩) hbl).trans hcj
      generalize hEE : endAt G (j + 1) = E at hcj
      have HEE := Lib.hid hEE
      clear hc hEE
      by_cases hle : E ≤ m
      · have hle1 : (E : Int) ≤ (m : Int) := by omega
        have HK : Hid (k = j) := Lib.hid (by
          rcases Nat.lt_or_ge k j with h | h
          · have h1 := HX.out.2 h
            have h2 := endAt_mono G (k + 1) (j + 1) (by omega)
            have h3 := HEE.out
            omega
          · omega)
        go_wp2_with fail
        go_quiet (fail)
        go_wp2_with fail
        go_roundw
        case rel => exact ⟨j + 1, j + 1, E, by go_num, by go_num, by go_num, by omega, by omega, hle, Lib.hid ⟨HEE.out.symm, fun h => absurd h (Nat.lt_irrefl _)⟩, Lib.hid (below_drewN HBr.out _)⟩
        case measure => simp [intOf]; omega
      · have hle1 : ¬ ((E : Int) ≤ (m : Int)) := by omega
        go_wp2_with fail
        go_roundw
        case rel =>
          refine ⟨j + 1, k, x, rfl, rfl, by go_num, by omega, by omega, hx, Lib.hid ⟨HX.out.1, fun h => ?_⟩, HBr⟩
          rcases Nat.lt_or_ge k j with h1 | h1
          · exact HX.out.2 h1
          · obtain rfl : k = j := by omega
            rw [HEE.out]
            omega
        case measure => simp [intOf]; omega
    · obtain rfl : j = nG := by omega
      have HSC : Hid (scan ((flat G).take m) = (G.take k, x, if x < m then 6 else 0)) := Lib.hid (by
        obtain ⟨k', g1, g2, g3, g4⟩ := HCUT.out
        have hk : k' = k := cut_one G m k' k (by rw [HNG.out]; exact g1) (by have := HNG.out; omega) g2 (fun h => g3 (by rw [← HNG.out]; exact h)) (by rw [← HX.out.1]; exact hx) (fun h => HX.out.2 (by rw [← HNG.out]; exact h))
        subst hk
        rw [g4, HX.out.1])
      have hTr := HT.out.later (HB1.out.trans (HBr.out.mono HB1.out.size)) HT.out.lt
      have HSCAN := Lib.hid (scan_any pa m ca ((flat G).take m) wr ((HSA.out.later HBr.out).take m hm2) HCA.out (by omega) hTr)
      rw [HSC.out] at HSCAN
      have HBw := Lib.hid (HB1.out.trans (HBr.out.mono HB1.out.size))
      have HSPr := Lib.hid (HSP.out.later HBr.out)
      have hktk : Hid ((G.take k).length = k) := Lib.hid (by rw [List.length_take, HNG.out]; omega)
      clear hTr
      by_cases hxm : x < m
      · have hxm1 : (x : Int) < (m : Int) := by omega
        rw [if_pos hxm] at HSCAN
        go_wp2_with fail
        refine HSCAN.out.mono ?_
        rintro e w4 ⟨p4, c4, H4, rfl, hs4, hb4⟩
        replace hs4 : LS w4 p4 (G.take k).length c4 H4 (G.take k) := hs4
        rw [hktk.out] at hs4
        have HSAME := Lib.hid (same_ls _ _ _ _ _ _ _ _ _ hs4 ((HSPr.out.later hb4).take k (by omega)) (by omega))
        have HB4 := Lib.hid (HBw.out.trans (hb4.mono HBw.out.size))
        clear hs4 hb4
        rw [hktk.out]
        go_wp2_with fail
        refine HSAME.out.mono ?_
        rintro e w5 ⟨rfl, hb5⟩
        have HB5 := Lib.hid (HB4.out.trans (hb5.mono HB4.out.size))
        have HT5 := Lib.hid (HT.out.later HB5.out HT.out.lt)
        clear hb5
        go_wp2_with fail
        refine (works10 _ HT5.out).mono ?_
        rintro e w6 ⟨rfl, hb6⟩
        have HB6 := Lib.hid (HB5.out.trans (hb6.mono HB5.out.size))
        clear hb6
        go_wp2_with fail
        go_ret
        exact ⟨rfl, HB6.out⟩
      · have hxm1 : ¬ ((x : Int) < (m : Int)) := by omega
        rw [if_neg hxm] at HSCAN
        go_wp2_with fail
        refine HSCAN.out.mono ?_
        rintro e w4 ⟨p4, c4, H4, rfl, hs4, hb4⟩
        replace hs4 : LS w4 p4 (G.take k).length c4 H4 (G.take k) := hs4
        rw [hktk.out] at hs4
        have HSAME := Lib.hid (same_ls _ _ _ _ _ _ _ _ _ hs4 ((HSPr.out.later hb4).take k (by omega)) (by omega))
        have HB4 := Lib.hid (HBw.out.trans (hb4.mono HBw.out.size))
        clear hs4 hb4
        rw [hktk.out]
        go_wp2_with fail
        refine HSAME.out.mono ?_
        rintro e w5 ⟨rfl, hb5⟩
        have HB5 := Lib.hid (HB4.out.trans (hb5.mono HB4.out.size))
        have HT5 := Lib.hid (HT.out.later HB5.out HT.out.lt)
        clear hb5
        go_wp2_with fail
        refine (works10 _ HT5.out).mono ?_
        rintro e w6 ⟨rfl, hb6⟩
        have HB6 := Lib.hid (HB5.out.trans (hb6.mono HB5.out.size))
        clear hb6
        go_wp2_with fail
        go_ret
        exact ⟨rfl, HB6.out⟩

set_option maxRecDepth 100000 in
theorem lifted (os : Os) (started : os.Started) (H : Type) (enc : TypeId × Value → H) :
    ReturnsInHanded {} Tryd.checked os 5 .any (fun w args => (Rows.frameCutsSpec.pre enc Tryd.prog Tryd.f5 [] false w args ∧ laidMetH Tryd.prog Rows.frameCutsRow.laid w) ∧ sizedMet enc Tryd.prog Tryd.f5 (OpenSpec.ofChange Rows.frameCutsSpec) false w args) (Rows.frameCutsSpec.post enc Tryd.prog Tryd.f5 false true false false) := by
  refine returnsInHanded_of_change_and (C := Tryd.checked) (X := fun w _ => laidMetH Tryd.prog Rows.frameCutsRow.laid w) (fun _ _ _ hh h => h.of_heap hh) own started (by kernel_rfl) Tryd.func5
    (ChangeSpec.witness_shaped (enc := enc) (C := Tryd.checked) (os := os) (X := fun w _ => laidMetH Tryd.prog Rows.frameCutsRow.laid w) false (World.doorLaid Tryd.prog 400 os) #[.slice none 0 0, .int .u16 0] 8 rfl (World.shaped_of_RefB (by kernel_rfl) (by kernel_rfl)) (by kernel_rfl) (by kernel_rfl) (by kernel_rfl) (door_met os _)) ?_
  intro W base args ds gs before hval0 hW _ _ hL _
  have hval : ∀ (j : Nat) t v, Tryd.f5.params[j]? = some t → args[j]? = some v → Value.okWide Tryd.prog W .any base t v := hval0
  have hW' := hW
  obtain ⟨p, q, hA0, hV, rfl, hfz, hnd⟩ := hW
  have hA : DataW.TrodAll enc Tryd.prog W 0 (fun _ => true) true Tryd.f5.params.toList args.toList ds p := hA0
  rw [Tryd.params5] at hA hval
  obtain ⟨v0, vs0, d0, ds0, p0, q0, hargs, rfl, rfl, h0, r0⟩ := trodAll_cons hA
  obtain ⟨v1, vs1, d1, ds1, p1, q1, rfl, rfl, rfl, h1, r1⟩ := trodAll_cons r0
  obtain ⟨rfl, rfl, rfl⟩ := trodAll_nil r1
  obtain rfl : args = #[v0, v1] := by cases args; simp_all
  obtain ⟨rfl, rfl⟩ := trodVars_none hV
  obtain ⟨a0, len0, cap0, rfl⟩ := okWide_slice Tryd.underlying35 (hval 0 35 v0 rfl rfl)
  have k0 := h0
  have lt0 : ∀ x ∈ p0, x.block < W.heap.size := by obtain ⟨m, hm⟩ := k0; exact DataW.trod_lt m _ _ _ hm
  obtain ⟨L0, w0⟩ : ∃ L, LSx W a0 len0 cap0 L ∧ ∀ y ∈ L, AnyL y := by
    obtain ⟨fuel, hf⟩ := h0
    exact open_lists hf
  have k1 := h1
  have lt1 : ∀ x ∈ p1, x.block < W.heap.size := by obtain ⟨m, hm⟩ := k1; exact DataW.trod_lt m _ _ _ hm
  obtain ⟨a1, rfl, rfl, rfl, w1⟩ := open_int Tryd.underlying42 (hval 1 42 v1 rfl rfl) h1
  clear hA0 hval0
  refine (walk a0 len0 cap0 L0 a1 W (of_laid hL) w0 w1).mono fun e W' ⟨he, bel⟩ => ?_
  subst he
  exact ⟨_, rfl, _, _, _, [], _, [], hW', trodAll_mk1 (shut_bool Tryd.underlying4 _), (trodAll_cons_mk (Below.trod laidOut (by kernel_rfl) (of_decide_eq_true (by kernel_rfl)) k0 bel lt0) (trodAll_cons_mk (Below.trod laidOut (by kernel_rfl) (of_decide_eq_true (by kernel_rfl)) k1 bel lt1) trodAll_mk0)), rfl, bel.frame _, fun h => by cases h⟩

theorem over : Rows.frameCutsRow.holds Tryd.pinned (OpenSpec.ofChange Rows.frameCutsSpec) :=
  OpenClaim.holds_of_wide 5 Tryd.f5 rfl rfl rfl rfl rfl rfl rfl ⟨rfl, rfl, rfl, rfl, rfl⟩ rfl rfl rfl rfl rfl (by kernel_rfl) Tryd.func5 (by kernel_rfl)
    (of_decide_eq_true (by kernel_rfl)) (by unfold Func.isWrapper; first | (rw [if_pos (by decide +kernel)]; kernel_rfl) | (rw [if_neg (by decide +kernel)]; exact ⟨rfl, rfl⟩))
    (fun os started H enc _ => lifted os started H enc)

theorem proved : Rows.FrameCutsCardSaid :=
  Claim7.holds_tied_plain_at .later [] [.data] true (true, "d36817a9d16adbc17b84dc019426f98c1e002323e2666b27882a76a3de946b2b") false
    over (fun _ h => by cases h) (by kernel_rfl) (fun _ h => by cases h) frameCuts_row_tie rfl ⟨rfl, rfl⟩ (by kernel_rfl) rfl
    (fun f fn hf hfn => by
      obtain rfl : f = 5 := Option.some.inj ((show Tryd.prog.funcNamed "pledge/pledgelaw10.FrameCuts" = some 5 by kernel_rfl).symm.trans hf) |>.symm
      obtain rfl : fn = Tryd.f5 := (Option.some.inj (Tryd.func5.symm.trans hfn)).symm
      exact ⟨by kernel_rfl, fun j t ht => by
        rw [Tryd.params5] at ht
        have hm : t ∈ [35, 35, 42] := by simpa using Array.mem_of_getElem? ht
        have hall : ([35, 35, 42].all fun u => !Tryd.prog.wantsStandIn u) = true := by kernel_rfl
        exact (show Tryd.prog.wantsStandIn t = false by simpa using List.all_eq_true.1 hall t hm)⟩)
    (by kernel_rfl)
#print axioms proved
end Go.Proofs.YtmadneedeheekaaDoor.frameCuts
