/-
  OpTurns answers true of any additions, and writes nothing that was there. No condition.
PLAIN4
-/
import Derived.Test.YtmjhfohpllndhaaRows
import Derived.Test.YtmjhfohpllndhaaOpArgs
import Derived.WalkKit
import Derived.ProofKit
import Derived.OpenShut
import Derived.ShutString
import Derived.ChangeOld
import Derived.Below
namespace Go.Proofs.Ytmjhfohpllndhaa.opTurns
open Go.ChangeShapes Go.WideShapes Go.ChangeAt Go.RowKit
open Go.ChangeMaps (open_string shut_string)
set_option linter.unusedVariables false

theorem own : ownKnob Try.prog.godebug = none := by kernel_rfl
theorem laidOut : laidOutB Try.prog = true := by kernel_rfl

set_option maxHeartbeats 1000000 in
set_option maxRecDepth 100000 in
theorem walk (a0 : Option Addr) (len0 cap0 : Nat) (L0 : List O) (w : World) (w0 : OL w a0 len0 cap0 L0 ∧ ∀ y ∈ L0, Ook y) :
    Calls Try.prog 6 #[.slice a0 len0 cap0] w fun e w' => e = .returned (.bool true) ∧ Below w.heap.size w w' := by
  obtain ⟨hA, hok⟩ := w0
  obtain ⟨k0, hk0, hl0, hb0⟩ : ∃ k : Nat, min (len0 : Int) 60 = (k : Int) ∧ k ≤ len0 ∧ k ≤ 60 := min_of len0 60
  have hL := hA.take k0 hl0
  have hkT := take_ok hok k0
  have hcap := hL.cap
  have hmax := hL.max
  unfold maxLen at hmax
  have hlc := hA.cap
  have hnl := netV_len (L0.take k0)
  rw [hL.len] at hnl
  generalize L0.take k0 = L at *
  have HL := Lib.hid hL
  have HOK := Lib.hid hkT
  have HLN := Lib.hid hL.len
  have HST := Lib.hid fun j (hj : j < k0) => backT_step L j (by rw [hL.len]; exact hj)
  clear hA hok hL hkT
  generalize hm1 : (netV L).length = m1 at *
  have HM1 := Lib.hid hm1
  clear hm1
  go_enter Try.func6, Try.ntmps6
  go_wp2_with fail
  go_loopw [3, 4] (fun v i wr => ∃ t : Nat, t ≤ k0 ∧ i = .int .i64 ((t : Int) - 1) ∧ Hid (FillO w wr v (backT L t) (k0 - t))) (fun _ i _ => (intOf i + 1).toNat)
  case atStart => exact ⟨k0, Nat.le_refl _, rfl, Lib.hid (by rw [backT_start L k0 HLN.out, Nat.sub_self]; exact FillG.nil w)⟩
  case round =>
    obtain ⟨t, ht, rfl, HF⟩ := hrel
    by_cases h0 : t = 0
    · subst h0
      have hd : decide (0 ≤ ((0 : Nat) : Int) - 1) = false := by decide
      have hf := HF.out
      rw [backT_end] at hf
      obtain ⟨bp, bc, rfl, hbs, _⟩ := hf.slice
      have hlr : L.reverse.length = k0 := by rw [List.length_reverse, HLN.out]
      rw [hlr] at hbs
      rw [hlr]
      have hbcap := hbs.cap
      have HBS := Lib.hid hbs
      have HBR := Lib.hid hf.below
      have HROK : Hid (∀ o ∈ L.reverse, Ook o) := Lib.hid fun o ho => HOK.out o (List.mem_reverse.1 ho)
      have HREV := Lib.hid (net_reverse L)
      have HAG := Lib.hid (net_again L)
      have HVOK := Lib.hid (netV_ok HOK.out)
      have hn1 := net_o a0 k0 cap0 L wr (HL.out.later HBR.out) HOK.out (by omega)
      clear hf hbs hlr HF
      go_wp2_with fail
      refine hn1.mono ?_
      rintro e w1 ⟨p1, c1, rfl, hs1, hb1, _⟩
      rw [HM1.out] at hs1
      rw [HM1.out]
      have hcap1 := hs1.cap
      have hn2 := net_o bp k0 bc L.reverse w1 (HBS.out.later hb1) HROK.out (by omega)
      rw [HREV.out.1, HREV.out.2] at hn2
      have HS1 := Lib.hid hs1
      have HB1 := Lib.hid (HBR.out.trans (hb1.mono HBR.out.size))
      clear hn1 hs1 hb1
      go_wp2_with fail
      refine hn2.mono ?_
      rintro e w2 ⟨p2, c2, rfl, hs2, hb2, _⟩
      rw [HM1.out] at hs2
      rw [HM1.out]
      have HB2 := Lib.hid (HB1.out.trans (hb2.mono HB1.out.size))
      have HS12 := Lib.hid (HS1.out.later hb2)
      have HS2 := Lib.hid hs2
      have hn3 := net_o p1 m1 c1 (netV L) w2 HS12.out HVOK.out (by omega)
      rw [HAG.out.1, HAG.out.2] at hn3
      clear hn2 hs2 hb2 HS1
      go_wp2_with fail
      refine hn3.mono ?_
      rintro e w3 ⟨p3, c3, rfl, hs3, hb3, _⟩
      rw [HM1.out] at hs3
      rw [HM1.out]
      have HB3 := Lib.hid (HB2.out.trans (hb3.mono HB2.out.size))
      have hq1 := rsame_o p1 p2 m1 m1 c1 c2 (netV L) (netV L) w3 (HS12.out.later hb3) (HS2.out.later hb3) (by omega) (by omega)
      have HQ2 := Lib.hid fun w5 (hb5 : Below w3.heap.size w3 w5) => rsame_o p3 p1 m1 m1 c3 c1 (netV L) (netV L) w5 (hs3.later hb5) ((HS12.out.later hb3).later hb5) (by omega) (by omega)
      rw [decide_eq_true (rfl : netV L = netV L)] at hq1 HQ2
      generalize netB L = ok1 at *
      clear hn3 hs3 hb3 HS12 HS2
      go_wp2_with fail
      refine hq1.mono ?_
      rintro e w5 ⟨rfl, hb5⟩
      have HB5 := Lib.hid (HB3.out.trans (hb5.mono HB3.out.size))
      have hq2 := HQ2.out w5 hb5
      clear hq1 hb5 HQ2
      go_wp2_with fail
      refine hq2.mono ?_
      rintro e w6 ⟨rfl, hb6⟩
      have HB6 := Lib.hid (HB5.out.trans (hb6.mono HB5.out.size))
      clear hq2 hb6
      go_wp2_with fail
      refine (op_works _).mono ?_
      rintro e w7 ⟨rfl, hb7⟩
      have HB7 := Lib.hid (HB6.out.trans (hb7.mono HB6.out.size))
      clear hb7
      go_wp2_with fail
      go_ret
      exact ⟨rfl, HB7.out⟩
    · obtain ⟨j, rfl⟩ : ∃ j, t = j + 1 := ⟨t - 1, by omega⟩
      have hlt : j < k0 := by omega
      have hlt' : (j : Int) < k0 := by omega
      obtain ⟨b, off, rfl, _, c0, c1, c2, c3⟩ := op_cells (HL.out.later HF.out.below) hlt
      have hst := HST.out j hlt
      generalize L.getD j o0 = x at *
      have HS := Lib.hid hst
      clear hst
      have hsz := HF.out.below.size
      have hmost := HF.out.most
      go_wp2_with (at_builtin; refine wpList_append_o rfl _ _ rfl w.heap.size _ (backT L (j + 1)).length (backT L (j + 1)) rfl (HF.out.own.alloc _) (by omega) x wr.heap.size rfl (op_news wr x) (by simp; omega) ?_; intro v2 w2 h1 h2)
      have HF2 := Lib.hid (HF.out.step _ h1 h2)
      clear h1 h2 hsz hmost
      go_wp2_with fail
      go_roundw
      case rel => exact ⟨j, by omega, by go_num, Lib.hid (by rw [HS.out]; exact HF2.out.mono (by omega))⟩
      case measure => simp [intOf]

set_option maxRecDepth 100000 in
theorem lifted (os : Os) (started : os.Started) (H : Type) (enc : TypeId × Value → H) :
    ReturnsInHanded {} Try.checked os 6 .any (Rows.opTurnsSpec.pre6 enc Try.prog Try.f6 Rows.opTurnsRow.domain false) (Rows.opTurnsSpec.post enc Try.prog Try.f6 false true false false) := by
  refine returnsInHanded_of_change (C := Try.checked) own started (by kernel_rfl) Try.func6
    (ChangeSpec.witness6 (enc := enc) (C := Try.checked) false ⟨#[], #[.slice none 0 0], []⟩ 8 (by kernel_rfl) (by kernel_rfl) (by kernel_rfl) (by kernel_rfl)) ?_
  intro W base args ds gs before hval0 hW hcnd _
  have hval : ∀ (j : Nat) t v, Try.f6.params[j]? = some t → args[j]? = some v → Value.okWide Try.prog W .any base t v := hval0
  have hW' := hW
  obtain ⟨p, q, hA0, hV, rfl, hfz, hnd⟩ := hW
  have hA : DataW.TrodAll enc Try.prog W 0 (fun _ => true) true Try.f6.params.toList args.toList ds p := hA0
  rw [Try.params6] at hA hval
  obtain ⟨v0, vs0, d0, ds0, p0, q0, hargs, rfl, rfl, h0, r0⟩ := trodAll_cons hA
  obtain ⟨rfl, rfl, rfl⟩ := trodAll_nil r0
  obtain rfl : args = #[v0] := by cases args; simp_all
  obtain ⟨rfl, rfl⟩ := trodVars_none hV
  obtain ⟨a0, len0, cap0, rfl⟩ := okWide_slice Try.underlying22 (hval 0 22 v0 rfl rfl)
  have k0 := h0
  have lt0 : ∀ x ∈ p0, x.block < W.heap.size := by obtain ⟨m, hm⟩ := k0; exact DataW.trod_lt m _ _ _ hm
  obtain ⟨L0, w0⟩ : ∃ L, OL W a0 len0 cap0 L ∧ ∀ y ∈ L, Ook y := by
    obtain ⟨fuel, hf⟩ := h0
    exact open_ops hf
  clear hA0 hval0
  refine (walk a0 len0 cap0 L0 W w0).mono fun e W' ⟨he, bel⟩ => ?_
  subst he
  exact ⟨_, rfl, _, _, _, [], _, [], hW', trodAll_mk1 (shut_bool Try.underlying4 _), (trodAll_cons_mk (Below.trod laidOut (by kernel_rfl) (of_decide_eq_true (by kernel_rfl)) k0 bel lt0) trodAll_mk0), rfl, bel.frame _, fun h => by cases h⟩

theorem over : Rows.opTurnsRow.holds Try.pinned (OpenSpec.ofChange Rows.opTurnsSpec) :=
  OpenClaim.holds_of_wide 6 Try.f6 rfl rfl rfl rfl rfl rfl rfl ⟨rfl, rfl, rfl, rfl, rfl⟩ rfl rfl rfl rfl rfl (by kernel_rfl) Try.func6 (by kernel_rfl)
    (of_decide_eq_true (by kernel_rfl)) (by unfold Func.isWrapper; first | (rw [if_pos (by decide +kernel)]; kernel_rfl) | (rw [if_neg (by decide +kernel)]; exact ⟨rfl, rfl⟩))
    (fun os started H enc _ => lifted os started H enc)

theorem proved : Rows.OpTurnsSaid := over
#print axioms proved
end Go.Proofs.Ytmjhfohpllndhaa.opTurns
