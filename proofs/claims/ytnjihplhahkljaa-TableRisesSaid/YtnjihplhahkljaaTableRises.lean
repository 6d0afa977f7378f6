/-
  TableRises answers true of any acts, and writes nothing that was there. No condition.
PLAIN4
-/
import Derived.Test.YtnjihplhahkljaaRows
import Derived.Test.YtnjihplhahkljaaTabOpen
import Derived.WalkKit
import Derived.ProofKit
import Derived.OpenShut
import Derived.ShutString
import Derived.ChangeOld
import Derived.Below
namespace Go.Proofs.Ytnjihplhahkljaa.tableRises
open Go.ChangeShapes Go.WideShapes Go.ChangeAt Go.RowKit
open Go.ChangeMaps (open_string shut_string)
set_option linter.unusedVariables false

theorem own : ownKnob Try.prog.godebug = none := by kernel_rfl
theorem laidOut : laidOutB Try.prog = true := by kernel_rfl
theorem up_at {L : List K} (h : Up L) {q : Nat} (hq : q + 1 < L.length) : lessB (L.getD q (0, 0, 0)) (L.getD (q + 1) (0, 0, 0)) = true := by
  rw [List.getD, List.getD, List.getElem?_eq_getElem (by omega), List.getElem?_eq_getElem hq]
  exact List.pairwise_iff_getElem.1 h q (q + 1) (by omega) hq (Nat.lt_succ_self q)
theorem get_key_at {M : List Rw} (h : Up (keysM M)) {j : Nat} (hj : j < M.length) : (getM M ((keysM M).getD j (0, 0, 0))).isSome = true := by
  rw [keys_at M j hj, get_at h j hj]
  rfl

set_option maxHeartbeats 1000000 in
set_option maxRecDepth 100000 in
theorem walk (a0 : Option Addr) (len0 cap0 : Nat) (L0 : List Ac) (w : World) (w0 : AL w a0 len0 cap0 L0 ∧ ∀ y ∈ L0, Aok y) :
    Calls Try.prog 4 #[.slice a0 len0 cap0] w fun e w' => e = .returned (.bool true) ∧ Below w.heap.size w w' := by
  obtain ⟨hA, hok⟩ := w0
  have hmd := made_any w a0 len0 cap0 L0 hA hok
  clear hA hok
  go_enter Try.func4, Try.ntmps4
  go_wp2_with fail
  refine hmd.mono ?_
  rintro e W1 ⟨mb, M, rp, rcap, rfl, hp, hm60, hb1⟩
  have hks := keysp_any W1 w.heap.size mb M hp.tab (by omega)
  have HT1 := Lib.hid hp.tab
  have HUP := Lib.hid hp.tab.up
  have HB1 := Lib.hid hb1
  clear hmd hp hb1
  go_wp2_with fail
  refine hks.mono ?_
  rintro e W2 ⟨p, c, rfl, hk, hb2, _⟩
  have hlk := len_keys M
  rw [hlk] at hk
  rw [hlk]
  have HK2 := Lib.hid hk
  have HB2 := Lib.hid (HB1.out.trans (hb2.mono HB1.out.size))
  have HT2 := Lib.hid (HT1.out.later hb2)
  have HX : Hid (∀ j, j < M.length → Kok ((keysM M).getD j (0, 0, 0)) ∧ (getM M ((keysM M).getD j (0, 0, 0))).isSome = true) := Lib.hid fun j hj => ⟨by
    rw [keys_at M j hj, List.getD, List.getElem?_eq_getElem hj]
    exact HUP.out.2 _ (List.getElem_mem hj), get_key_at HUP.out.1 hj⟩
  have HR : Hid (∀ q, q + 1 < M.length → lessB ((keysM M).getD q (0, 0, 0)) ((keysM M).getD (q + 1) (0, 0, 0)) = true) := Lib.hid fun q hq => up_at HUP.out.1 (by rw [len_keys]; exact hq)
  clear hks hk hb2 HT1 HB1 HUP
  generalize hm : M.length = m at *
  have HMM := Lib.hid hm
  clear hm
  go_wp2_with fail
  go_loopw [7] (fun i wr => ∃ j : Nat, j ≤ m ∧ i = .int .i64 (j : Nat) ∧ Hid (Below W2.heap.size W2 wr)) (fun i _ => m - (intOf i).toNat)
  case atStart => exact ⟨0, Nat.zero_le _, rfl, Lib.hid (Below.refl _ _)⟩
  case round =>
    obtain ⟨j, hj, rfl, HBr⟩ := hrel
    by_cases hlt : j < m
    · have hlt' : (j : Int) < m := by omega
      have hKr := HK2.out.later HBr.out
      obtain ⟨b, off, rfl, hcell⟩ := hKr.cell (by omega)
      obtain ⟨hkok, hsome⟩ := HX.out j hlt
      have hget := get_any ((keysM M).getD j (0, 0, 0)) hkok wr w.heap.size mb M (HT2.out.later HBr.out)
      rw [hsome] at hget
      have HC : Hid (∀ w', Below W2.heap.size W2 w' → ∀ q, q < m → w'.cell? ⟨b, off + q * 3, none⟩ = some (.int .u8 ((keysM M).getD q (0, 0, 0)).1) ∧ w'.cell? ⟨b, off + q * 3 + 1, none⟩ = some (.int .u8 ((keysM M).getD q (0, 0, 0)).2.1) ∧ w'.cell? ⟨b, off + q * 3 + 2, none⟩ = some (.int .u8 ((keysM M).getD q (0, 0, 0)).2.2)) := Lib.hid fun w' hb q hq => by
        obtain ⟨b2, off2, he, hc⟩ := (HK2.out.later hb).cell (by omega)
        cases he
        exact hc q hq
      obtain ⟨c0, c1, c2⟩ := HC.out _ HBr.out j hlt
      clear hcell hKr hsome hkok
      by_cases h0 : j = 0
      · have HJ0 := Lib.hid h0
        have hd1 : decide ((0 : Int) < (j : Int)) = false := decide_eq_false (by omega)
        have hd2 : decide (0 < j) = false := decide_eq_false (by omega)
        clear h0
        generalize (keysM M).getD j (0, 0, 0) = y at *
        go_wp2_with fail
        refine hget.mono ?_
        rintro e W3 ⟨rfl, hb3⟩
        have HB3 := Lib.hid (HBr.out.trans (hb3.mono HBr.out.size))
        clear hget hb3 c0 c1 c2
        go_wp2_with fail
        refine wp_region_after (by kernel_rfl) (by kernel_rfl) ?_
        repeat (go_big_quiet_step (fail))
        refine wpQuiet_nil ?_
        intro w4 hw'
        obtain ⟨⟨wq, h6⟩, hw''⟩ := hw'
        subst hw''
        have HB4 := Lib.hid (HB3.out.trans (h6.mono HB3.out.size))
        clear h6
        go_wp2_with fail
        go_roundw
        case rel => exact ⟨j + 1, by omega, by go_num, HB4⟩
        case measure => simp [intOf]; omega
      · obtain ⟨q, hq⟩ : ∃ q, j = q + 1 := ⟨j - 1, by omega⟩
        have hless := HR.out q (by omega)
        rw [← hq] at hless
        have HCMP := Lib.hid fun W => compare_any ((keysM M).getD q (0, 0, 0)) ((keysM M).getD j (0, 0, 0)) W
        have hcv : cmpI ((keysM M).getD q (0, 0, 0)) ((keysM M).getD j (0, 0, 0)) = -1 := by rw [cmp_values, if_pos hless]
        rw [hcv] at HCMP
        have hd1 : decide ((0 : Int) < (j : Int)) = true := decide_eq_true (by omega)
        have hd2 : decide (0 < j) = true := decide_eq_true (by omega)
        have hji : (j : Int) - 1 = (q : Int) := by omega
        have hqm : q < m := by omega
        have hqm' : (q : Int) < m := by omega
        clear hcv hless hq h0
        have hE := HC.out
        generalize hx : (keysM M).getD q (0, 0, 0) = x at *
        generalize hy : (keysM M).getD j (0, 0, 0) = y at *
        go_wp2_with fail
        refine hget.mono ?_
        rintro e W3 ⟨rfl, hb3⟩
        have HB3 := Lib.hid (HBr.out.trans (hb3.mono HBr.out.size))
        clear hget hb3 c0 c1 c2
        obtain ⟨c0, c1, c2⟩ := hE _ HB3.out j hlt
        obtain ⟨e0, e1, e2⟩ := hE _ HB3.out q hqm
        rw [hy] at c0 c1 c2
        rw [hx] at e0 e1 e2
        have cc0 := fun p : After _ => cell_after p c0
        have cc1 := fun p : After _ => cell_after p c1
        have cc2 := fun p : After _ => cell_after p c2
        have ee0 := fun p : After _ => cell_after p e0
        have ee1 := fun p : After _ => cell_after p e1
        have ee2 := fun p : After _ => cell_after p e2
        clear hE hx hy
        go_wp2_with fail
        refine wp_region_after (by kernel_rfl) (by kernel_rfl) ?_
        repeat (go_big_quiet_step (first | (go_at_call 13; exact calls_after_gr _ (HCMP.out _))))
        refine wpQuiet_nil ?_
        intro w4 hw'
        obtain ⟨⟨wq, h6⟩, hw''⟩ := hw'
        subst hw''
        have HB4 := Lib.hid (HB3.out.trans (h6.mono HB3.out.size))
        clear h6 c0 c1 c2 e0 e1 e2 cc0 cc1 cc2 ee0 ee1 ee2
        go_wp2_with fail
        go_roundw
        case rel => exact ⟨j + 1, by omega, by go_num, HB4⟩
        case measure => simp [intOf]; omega
    · obtain rfl : m = j := by omega
      have hlen := len_any wr w.heap.size mb M (HT2.out.later HBr.out)
      rw [HMM.out] at hlen
      go_wp2_with fail
      refine hlen.mono ?_
      rintro e W3 ⟨rfl, rfl⟩
      go_wp2_with fail
      refine (tab_works _).mono ?_
      rintro e W4 ⟨rfl, hb4⟩
      have HB4 := Lib.hid (HB2.out.trans ((HBr.out.mono HB2.out.size).trans (hb4.mono (by have := HB2.out.size; have := HBr.out.size; omega))))
      clear hlen hb4
      go_wp2_with fail
      go_ret
      exact ⟨rfl, HB4.out⟩

set_option maxRecDepth 100000 in
theorem lifted (os : Os) (started : os.Started) (H : Type) (enc : TypeId × Value → H) :
    ReturnsInHanded {} Try.checked os 4 .any (Rows.tableRisesSpec.pre6 enc Try.prog Try.f4 Rows.tableRisesRow.domain false) (Rows.tableRisesSpec.post enc Try.prog Try.f4 false true false false) := by
  refine returnsInHanded_of_change (C := Try.checked) own started (by kernel_rfl) Try.func4
    (ChangeSpec.witness6 (enc := enc) (C := Try.checked) false ⟨#[], #[.slice none 0 0], []⟩ 8 (by kernel_rfl) (by kernel_rfl) (by kernel_rfl) (by kernel_rfl)) ?_
  intro W base args ds gs before hval0 hW hcnd _
  have hval : ∀ (j : Nat) t v, Try.f4.params[j]? = some t → args[j]? = some v → Value.okWide Try.prog W .any base t v := hval0
  have hW' := hW
  obtain ⟨p, q, hA0, hV, rfl, hfz, hnd⟩ := hW
  have hA : DataW.TrodAll enc Try.prog W 0 (fun _ => true) true Try.f4.params.toList args.toList ds p := hA0
  rw [Try.params4] at hA hval
  obtain ⟨v0, vs0, d0, ds0, p0, q0, hargs, rfl, rfl, h0, r0⟩ := trodAll_cons hA
  obtain ⟨rfl, rfl, rfl⟩ := trodAll_nil r0
  obtain rfl : args = #[v0] := by cases args; simp_all
  obtain ⟨rfl, rfl⟩ := trodVars_none hV
  obtain ⟨a0, len0, cap0, rfl⟩ := okWide_slice Try.underlying22 (hval 0 22 v0 rfl rfl)
  have k0 := h0
  have lt0 : ∀ x ∈ p0, x.block < W.heap.size := by obtain ⟨m, hm⟩ := k0; exact DataW.trod_lt m _ _ _ hm
  obtain ⟨L0, w0⟩ : ∃ L, AL W a0 len0 cap0 L ∧ ∀ y ∈ L, Aok y := by
    obtain ⟨fuel, hf⟩ := h0
    exact open_acts hf
  clear hA0 hval0
  refine (walk a0 len0 cap0 L0 W w0).mono fun e W' ⟨he, bel⟩ => ?_
  subst he
  exact ⟨_, rfl, _, _, _, [], _, [], hW', trodAll_mk1 (shut_bool Try.underlying4 _), (trodAll_cons_mk (Below.trod laidOut (by kernel_rfl) (of_decide_eq_true (by kernel_rfl)) k0 bel lt0) trodAll_mk0), rfl, bel.frame _, fun h => by cases h⟩

theorem over : Rows.tableRisesRow.holds Try.pinned (OpenSpec.ofChange Rows.tableRisesSpec) :=
  OpenClaim.holds_of_wide 4 Try.f4 rfl rfl rfl rfl rfl rfl rfl ⟨rfl, rfl, rfl, rfl, rfl⟩ rfl rfl rfl rfl rfl (by kernel_rfl) Try.func4 (by kernel_rfl)
    (of_decide_eq_true (by kernel_rfl)) (by unfold Func.isWrapper; first | (rw [if_pos (by decide +kernel)]; kernel_rfl) | (rw [if_neg (by decide +kernel)]; exact ⟨rfl, rfl⟩))
    (fun os started H enc _ => lifted os started H enc)

theorem proved : Rows.TableRisesSaid := over
#print axioms proved
end Go.Proofs.Ytnjihplhahkljaa.tableRises
