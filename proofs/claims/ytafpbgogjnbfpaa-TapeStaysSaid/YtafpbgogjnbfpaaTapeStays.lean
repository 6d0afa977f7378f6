/-
  TapeStays answers true of any number, any acts and any act, and writes nothing that was there. No condition.
PLAIN4
-/
import Derived.Test.YtafpbgogjnbfpaaRows
import Derived.Test.YtafpbgogjnbfpaaTapeSolo
import Derived.BigQuiet
import Derived.Deep.RegionLaw
import Derived.WalkKit
import Derived.ProofKit
import Derived.OpenShut
import Derived.ShutString
import Derived.ChangeOld
import Derived.Below
namespace Go.Proofs.Ytafpbgogjnbfpaa.tapeStays
open Go.ChangeShapes Go.WideShapes Go.ChangeAt Go.RowKit
open Go.ChangeMaps (open_string shut_string)
set_option linter.unusedVariables false

theorem own : ownKnob Try.prog.godebug = none := by kernel_rfl
theorem laidOut : laidOutB Try.prog = true := by kernel_rfl

set_option maxHeartbeats 1000000 in
set_option maxRecDepth 100000 in
theorem walk (a0 : Int) (a1 : Option Addr) (len1 cap1 : Nat) (L1 : List Ac) (a2 : Array Value) (w : World) (w0 : (Lit.int .u8 a0).wf = true) (w1 : AL w a1 len1 cap1 L1 ∧ ∀ y ∈ L1, AnyA y) (w2 : ActIn w a2) :
    Calls Try.prog 4 #[.int .u8 a0, .slice a1 len1 cap1, .agg a2] w fun e w' => e = .returned (.bool true) ∧ Below w.heap.size w w' := by
  obtain ⟨hA, _⟩ := w1
  obtain ⟨ya, rfl, hba⟩ := w2
  obtain ⟨g1, g2⟩ := bounds_u8 w0
  obtain ⟨A, rfl⟩ : ∃ A : Nat, a0 = A := ⟨a0.toNat, by omega⟩
  have hAlt : A < 256 := by omega
  clear g1 g2 w0
  have hb0 : Below w.heap.size w (w.alloc (.cells (ac ya).toArray 33)) := (Below.refl _ _).alloc (Nat.le_refl _) _
  have HA := Lib.hid (hA.later hb0)
  have HBA : Hid (BL (w.alloc (.cells (ac ya).toArray 33)) ya.q ya.m ya.cq ya.b ∧ ya.k < 256) := Lib.hid ⟨SlG.later hba.1 hb0, hba.2⟩
  have HB0 := Lib.hid hb0
  have H4 := Lib.hid (alloc_block w (.cells (ac ya).toArray 33))
  clear hA hba hb0
  unfold ac at *
  have hf := few_any a1 len1 cap1 L1 _ HA.out
  go_enter Try.func4, Try.ntmps4
  go_wp2_with fail
  refine hf.mono ?_
  rintro e w' ⟨⟨tf, rfl, hlen⟩, rfl⟩
  cases tf with
  | false =>
    go_wp2_with fail
    refine (tape_works _).mono ?_
    rintro e W3 ⟨rfl, hb3⟩
    have HB3 := Lib.hid (HB0.out.trans (hb3.mono HB0.out.size))
    clear hb3
    go_wp2_with fail
    go_ret
    exact ⟨rfl, HB3.out⟩
  | true =>
    obtain ⟨hl40, hm6⟩ := hlen rfl
    have HM6 := Lib.hid hm6
    clear hf hlen hm6
    go_wp2_with fail
    have hw0s : (w.alloc (.cells #[.int .u8 (ya.k : Nat), .slice ya.q ya.m ya.cq, .int .i64 ya.x] 33)).heap.size = w.heap.size + 1 := by simp
    have HS0 := Lib.hid hw0s
    clear hw0s
    generalize hW0 : w.alloc (.cells #[.int .u8 (ya.k : Nat), .slice ya.q ya.m ya.cq, .int .i64 ya.x] 33) = W0 at *
    clear hW0
    have h2a := one_act W0 ya HBA.out
    rw [HS0.out] at h2a
    have hf2 := few_any _ 1 1 _ _ h2a
    have hb1 : Below W0.heap.size W0 (W0.alloc (.cells #[.int .u8 (ya.k : Nat), .slice ya.q ya.m ya.cq, .int .i64 ya.x] 33)) := (Below.refl _ _).alloc (Nat.le_refl _) _
    have HB1 := Lib.hid (HB0.out.trans (hb1.mono HB0.out.size))
    have H41 := Lib.hid (block_later H4.out hb1)
    have HA1 := Lib.hid (HA.out.later hb1)
    have HYA := Lib.hid (And.intro (SlG.later HBA.out.1 hb1) HBA.out.2)
    clear hb1 h2a HB0 HA H4 HBA
    refine hf2.mono ?_
    rintro e w1 ⟨⟨tf, rfl, hlen2⟩, rfl⟩
    generalize W0.alloc (.cells #[.int .u8 (ya.k : Nat), .slice ya.q ya.m ya.cq, .int .i64 ya.x] 33) = W1 at *
    clear hf2 HS0
    cases tf with
    | false =>
      go_wp2_with fail
      refine (tape_works _).mono ?_
      rintro e W3 ⟨rfl, hb3⟩
      have HB3 := Lib.hid (HB1.out.trans (hb3.mono HB1.out.size))
      clear hb3
      go_wp2_with fail
      go_ret
      exact ⟨rfl, HB3.out⟩
    | true =>
      have HMA : Hid (ya.m ≤ 600) := Lib.hid ((hlen2 rfl).2 0 (by omega))
      clear hlen2
      have hst := solo_start W1 (A : Int)
      obtain ⟨s, hs⟩ : ∃ s, s = cl (A : Int) 64 4096 := ⟨_, rfl⟩
      rw [← hs] at hst
      have HST := Lib.hid hst
      clear hst hs
      go_wp2_with fail
      refine (tape_new (A : Int) W1).mono ?_
      rintro e W2 ⟨rfl, hW2⟩
      rw [← hW2] at HST
      have h64 := HST.out.tp.s_in
      clear hW2
      generalize hX1 : W1.heap.size = X1 at *
      have HX1 := Lib.hid hX1
      clear hX1
      go_wp2_with fail
      go_loopw [8] (fun i wr => ∃ (j : Nat) (mb : Option Nat) (Q : Nat → Prop) (t : TS), j ≤ len1 ∧ i = .int .i64 (j : Nat) ∧ Hid (Solo W1 wr X1 mb Q A s t) ∧ Hid (t.f * s + t.B.length ≤ j * 600)) (fun i _ => len1 - (intOf i).toNat)
      case atStart => exact ⟨0, _, _, _, Nat.zero_le _, rfl, HST, Lib.hid (by simp)⟩
      case round =>
        obtain ⟨j, mb, Q, t, hj, rfl, HP, HB⟩ := hrel
        by_cases hlt : j < len1
        · have hlt' : (j : Int) < len1 := by omega
          obtain ⟨ab, ao, rfl, _, ⟨d0', d1', d2'⟩, _⟩ := (HA1.out.later HP.out.below).at hlt
          have hy : BL W1 (L1.getD j ac0).q (L1.getD j ac0).m (L1.getD j ac0).cq (L1.getD j ac0).b ∧ (L1.getD j ac0).k < 256 := by
            obtain ⟨_, _, _, _, _, h⟩ := HA1.out.at hlt
            exact h
          have hm := HM6.out j hlt
          have hbd : t.f * s + t.B.length ≤ 24600 := by
            have := HB.out
            have : j * 600 ≤ 40 * 600 := Nat.mul_le_mul_right _ (by omega)
            omega
          have HC := Lib.hid (HP.out.calls hy hm hbd)
          have HBN : Hid ((actT s t (L1.getD j ac0).k (L1.getD j ac0).b (L1.getD j ac0).x).f * s + (actT s t (L1.getD j ac0).k (L1.getD j ac0).b (L1.getD j ac0).x).B.length ≤ (j + 1) * 600) := Lib.hid (by
            have h1 := act_len (s := s) (by omega) t (L1.getD j ac0).k (L1.getD j ac0).b (L1.getD j ac0).x
            have h2 := HB.out
            have h3 := hy.1.len
            rw [Nat.add_mul]
            omega)
          clear hy hm hbd
          generalize actT s t (L1.getD j ac0).k (L1.getD j ac0).b (L1.getD j ac0).x = t' at *
          generalize (L1.getD j ac0).k = yk at *
          generalize (L1.getD j ac0).q = yq at *
          generalize (L1.getD j ac0).m = ym at *
          generalize (L1.getD j ac0).cq = yc at *
          generalize (L1.getD j ac0).b = yb' at *
          generalize (L1.getD j ac0).x = yx at *
          go_wp2_with fail
          refine HC.out.mono ?_
          rintro e w5 ⟨v5, mb5, Q5, rfl, HP5, _⟩
          clear d0' d1' d2'
          go_wp2_with fail
          go_roundw
          case rel => exact ⟨j + 1, mb5, Q5, t', by omega, by go_num, HP5, HBN⟩
          case measure => simp [intOf]; omega
        · obtain rfl : len1 = j := by omega
          have hbd : t.f * s + t.B.length ≤ 24000 := by
            have := HB.out
            have : len1 * 600 ≤ 40 * 600 := Nat.mul_le_mul_right _ (by omega)
            omega
          have hby := tape_bytes HP.out.tp (by omega) (-1)
          rw [bytes_all] at hby
          have HBD := Lib.hid hbd
          clear hbd
          go_wp2_with fail
          refine hby.mono ?_
          rintro e W5 ⟨p1, c1, rfl, hl1, hb5, hn1⟩
          have HP5 := Lib.hid (HP.out.later hb5)
          have HN1 : Hid (0 < t.B.length → ∀ a, p1 = some a → ¬ Q a.block) := Lib.hid fun _ ad ha hq => by
            have h1 := (HP.out.q _ hq).2
            have h2 := hn1 ad ha
            omega
          have HL1 := Lib.hid hl1
          have hdo := HP5.out.calls HYA.out HMA.out (by have := HBD.out; omega)
          have hst := act_stays (s := s) (by omega) t ya.k ya.b ya.x
          have hln := act_len (s := s) (by omega) t ya.k ya.b ya.x
          have hyl := HYA.out.1.len
          rw [hyl] at hln
          have h45 := block_later H41.out HP5.out.below
          have hfi := tape_first HP5.out.tp
          have hen := tape_end HP5.out.tp
          clear hby hb5 hl1 hn1 hyl HP
          generalize actT s t ya.k ya.b ya.x = t' at *
          obtain ⟨E, hE⟩ : ∃ E, t.f * s + t.B.length = E := ⟨_, rfl⟩
          have hbd := HBD.out
          rw [hE] at hln hst hen hbd
          generalize hn : t.B.length = n at *
          generalize hF : t.f * s = F at *
          have HLN : Hid (t'.f * s + t'.B.length ≤ 25000) := Lib.hid (by have := HMA.out; omega)
          have HST := Lib.hid hst
          have HN := Lib.hid hn
          have HFI := Lib.hid hfi
          have HEN := Lib.hid hen
          have HDO := Lib.hid hdo
          clear hF hst hdo hfi hen hn HBD hln
          go_wp2_with fail
          refine HFI.out.mono ?_
          rintro e Wx ⟨rfl, hWx⟩
          obtain rfl := hWx
          go_wp2_with fail
          refine HEN.out.mono ?_
          rintro e Wx ⟨rfl, hWx⟩
          obtain rfl := hWx
          have a0' := block_cell (j := 0) h45 (v := .int .u8 (ya.k : Nat)) rfl
          have a1' := block_cell (j := 1) h45 (v := .slice ya.q ya.m ya.cq) rfl
          have a2' := block_cell (j := 2) h45 (v := .int .i64 ya.x) rfl
          clear h45 HFI HEN
          go_wp2_with fail
          refine HDO.out.mono ?_
          rintro e W6 ⟨v6, mb6, Q6, rfl, HP6, HC6⟩
          have HL6 := Lib.hid (BL.keep HL1.out HC6.out HN1.out)
          have hby := tape_bytes HP6.out.tp (by have := HLN.out; omega) (-1)
          rw [bytes_all] at hby
          clear HDO a0' a1' a2' HC6 HL1 HN1 HP5
          go_wp2_with fail
          refine hby.mono ?_
          rintro e W7 ⟨p2, c2, rfl, hl2, hb7, hn2⟩
          have HP7 := Lib.hid (HP6.out.later hb7)
          have HL7 := Lib.hid (SlG.later HL6.out hb7)
          have HL2 := Lib.hid hl2
          have hfi := tape_first HP7.out.tp
          have hen := tape_end HP7.out.tp
          have hsg := tape_segs HP7.out.tp
          clear hby hl2 hb7 hn2 HL6 HP6
          obtain ⟨E', hE'⟩ : ∃ E', t'.f * s + t'.B.length = E' := ⟨_, rfl⟩
          have hbd' := HLN.out
          have hst := HST.out
          rw [hE'] at hen hbd' hst
          generalize hn' : t'.B.length = n' at *
          generalize hF' : t'.f * s = F' at *
          generalize nS s n' = m at *
          have HFI := Lib.hid hfi
          have HEN := Lib.hid hen
          have HSG := Lib.hid hsg
          have hFF := hst.1
          have HST2 := Lib.hid hst.2
          have HN' := Lib.hid hn'
          clear hfi hen hsg hst HST HLN hn' hF'
          have q1 : ¬ (F' : Int) < F := by omega
          have q2 : ¬ (E' : Int) < F' := by omega
          have u1 : decide ((F' : Int) < F) = false := decide_eq_false q1
          have u2 : decide ((E' : Int) < F') = false := decide_eq_false q2
          have u3 : decide (F' < F) = false := decide_eq_false (by omega)
          have u4 : decide (E' < F') = false := decide_eq_false (by omega)
          have u5 : decide (((m : Nat) : Int) < 0) = false := decide_eq_false (by omega)
          have q3 : (E' : Int) - F' = n' := by omega
          have q4 : (E : Int) - F = n := by omega
          have q5 : ¬ ((m : Nat) : Int) < 0 := by omega
          go_wp2_with fail
          refine HFI.out.mono ?_
          rintro e Wx ⟨rfl, hWx⟩
          obtain rfl := hWx
          go_wp2_with fail
          refine HEN.out.mono ?_
          rintro e Wx ⟨rfl, hWx⟩
          obtain rfl := hWx
          clear HFI HEN
          go_wp2_with fail
          refine HSG.out.mono ?_
          rintro e Wx ⟨rfl, hWx⟩
          obtain rfl := hWx
          clear HSG
          obtain ⟨M, hM⟩ : ∃ M, min E E' = M := ⟨_, rfl⟩
          have hM1 : min (E : Int) (E' : Int) = (M : Nat) := by omega
          have hM2 : min (E' : Int) (E : Int) = (M : Nat) := by omega
          have hM3 : (if (E' : Int) < (E : Int) then (E' : Int) else (E : Int)) = (M : Nat) := by split <;> omega
          have hM4 : M ≤ E ∧ M ≤ E' := by omega
          clear hM
          go_wp2_with fail
          go_loopw [15] (fun i wr => ∃ k : Nat, F' ≤ k ∧ i = .int .i64 (k : Nat) ∧ Hid (Below Wx.heap.size Wx wr)) (fun i _ => M - (intOf i).toNat)
          case atStart => exact ⟨F', Nat.le_refl _, rfl, Lib.hid (Below.refl _ _)⟩
          case round =>
            obtain ⟨k, hk, rfl, HBr⟩ := hrel
            by_cases hlt : k < M
            · have hlt' : (k : Int) < (M : Nat) := by omega
              obtain ⟨i1, hi1⟩ : ∃ i1 : Nat, k - F = i1 := ⟨_, rfl⟩
              obtain ⟨i2, hi2⟩ : ∃ i2 : Nat, k - F' = i2 := ⟨_, rfl⟩
              have hv := HST2.out k hk (by omega) (by omega)
              rw [hi1, hi2] at hv
              obtain ⟨b1, o1, rfl, _, hc1⟩ := BL.at (SlG.later HL7.out HBr.out) (show 0 < n by omega)
              obtain ⟨b2, o2, rfl, _, hc2⟩ := BL.at (SlG.later HL2.out HBr.out) (show 0 < n' by omega)
              have c1' := hc1 i1 (by omega)
              have c2' := hc2 i2 (by omega)
              rw [hv] at c2'
              generalize t.B.getD i1 0 = x at *
              clear hc1 hc2 hv
              have r1 : (k : Int) - F = (i1 : Nat) := by omega
              have r2 : (k : Int) - F' = (i2 : Nat) := by omega
              have r3 : wrap64 ((k : Int) - F) = (i1 : Nat) := by rw [r1]; exact IntWalk.wrap64_in _ (by omega)
              have r4 : wrap64 ((k : Int) - F') = (i2 : Nat) := by rw [r2]; exact IntWalk.wrap64_in _ (by omega)
              have r5 : IntKind.i64.wrap ((k : Int) - F) = (i1 : Nat) := by rw [r1]; exact IntWalk.i64_in _ (by omega)
              have r6 : IntKind.i64.wrap ((k : Int) - F') = (i2 : Nat) := by rw [r2]; exact IntWalk.i64_in _ (by omega)
              have l1 : (i1 : Int) < n := by omega
              have l2 : (i2 : Int) < n' := by omega
              have HNB : Hid (∀ q, Below Wx.heap.size Wx (wr.drewN q)) := Lib.hid fun q => below_drewN HBr.out q
              have d1 : ∀ q, (wr.drewN q).cell? ⟨b1, o1 + i1, none⟩ = some (.int .u8 x) := fun _ => c1'
              have d2 : ∀ q, (wr.drewN q).cell? ⟨b2, o2 + i2, none⟩ = some (.int .u8 x) := fun _ => c2'
              clear hi1 hi2
              go_wp2_with fail
              all_goals
                go_quiet (fail)
                go_wp2_with fail
                go_roundw
                case rel => exact ⟨k + 1, by omega, by go_num, Lib.hid (HNB.out _)⟩
                case measure => simp [intOf]; omega
            · have hlt' : ¬ (k : Int) < (M : Nat) := by omega
              go_wp2_with fail
              all_goals
                refine (tape_works _).mono ?_
                rintro e Wz ⟨rfl, hbz⟩
                have HBZ := Lib.hid (HB1.out.trans (((HP7.out.later HBr.out).later hbz).below.mono HB1.out.size))
                clear hbz
                go_wp2_with fail
                go_ret
                exact ⟨rfl, HBZ.out⟩

set_option maxRecDepth 100000 in
theorem lifted (os : Os) (started : os.Started) (H : Type) (enc : TypeId × Value → H) :
    ReturnsInHanded {} Try.checked os 4 .any (Rows.tapeStaysSpec.pre6 enc Try.prog Try.f4 Rows.tapeStaysRow.domain false) (Rows.tapeStaysSpec.post enc Try.prog Try.f4 false true false false) := by
  refine returnsInHanded_of_change (C := Try.checked) own started (by kernel_rfl) Try.func4
    (ChangeSpec.witness6 (enc := enc) (C := Try.checked) false ⟨#[], #[.int .u8 0, .slice none 0 0, .agg #[.int .u8 0, .slice none 0 0, .int .i64 0]], []⟩ 8 (by kernel_rfl) (by kernel_rfl) (by kernel_rfl) (by kernel_rfl)) ?_
  intro W base args ds gs before hval0 hW hcnd _
  have hval : ∀ (j : Nat) t v, Try.f4.params[j]? = some t → args[j]? = some v → Value.okWide Try.prog W .any base t v := hval0
  have hW' := hW
  obtain ⟨p, q, hA0, hV, rfl, hfz, hnd⟩ := hW
  have hA : DataW.TrodAll enc Try.prog W 0 (fun _ => true) true Try.f4.params.toList args.toList ds p := hA0
  rw [Try.params4] at hA hval
  obtain ⟨v0, vs0, d0, ds0, p0, q0, hargs, rfl, rfl, h0, r0⟩ := trodAll_cons hA
  obtain ⟨v1, vs1, d1, ds1, p1, q1, rfl, rfl, rfl, h1, r1⟩ := trodAll_cons r0
  obtain ⟨v2, vs2, d2, ds2, p2, q2, rfl, rfl, rfl, h2, r2⟩ := trodAll_cons r1
  obtain ⟨rfl, rfl, rfl⟩ := trodAll_nil r2
  obtain rfl : args = #[v0, v1, v2] := by cases args; simp_all
  obtain ⟨rfl, rfl⟩ := trodVars_none hV
  have k0 := h0
  have lt0 : ∀ x ∈ p0, x.block < W.heap.size := by obtain ⟨m, hm⟩ := k0; exact DataW.trod_lt m _ _ _ hm
  obtain ⟨a0, rfl, rfl, rfl, w0⟩ := open_int Try.underlying5 (hval 0 5 v0 rfl rfl) h0
  obtain ⟨a1, len1, cap1, rfl⟩ := okWide_slice Try.underlying22 (hval 1 22 v1 rfl rfl)
  have k1 := h1
  have lt1 : ∀ x ∈ p1, x.block < W.heap.size := by obtain ⟨m, hm⟩ := k1; exact DataW.trod_lt m _ _ _ hm
  obtain ⟨L1, w1⟩ : ∃ L, AL W a1 len1 cap1 L ∧ ∀ y ∈ L, AnyA y := by
    obtain ⟨fuel, hf⟩ := h1
    exact open_acts hf
  have k2 := h2
  have lt2 : ∀ x ∈ p2, x.block < W.heap.size := by obtain ⟨m, hm⟩ := k2; exact DataW.trod_lt m _ _ _ hm
  obtain ⟨a2, rfl, w2⟩ := open_act (hval 2 33 v2 rfl rfl) h2
  clear hA0 hval0
  refine (walk a0 a1 len1 cap1 L1 a2 W w0 w1 w2).mono fun e W' ⟨he, bel⟩ => ?_
  subst he
  exact ⟨_, rfl, _, _, _, [], _, [], hW', trodAll_mk1 (shut_bool Try.underlying4 _), (trodAll_cons_mk (Below.trod laidOut (by kernel_rfl) (of_decide_eq_true (by kernel_rfl)) k0 bel lt0) (trodAll_cons_mk (Below.trod laidOut (by kernel_rfl) (of_decide_eq_true (by kernel_rfl)) k1 bel lt1) (trodAll_cons_mk (Below.trod laidOut (by kernel_rfl) (of_decide_eq_true (by kernel_rfl)) k2 bel lt2) trodAll_mk0))), rfl, bel.frame _, fun h => by cases h⟩

theorem over : Rows.tapeStaysRow.holds Try.pinned (OpenSpec.ofChange Rows.tapeStaysSpec) :=
  OpenClaim.holds_of_wide 4 Try.f4 rfl rfl rfl rfl rfl rfl rfl ⟨rfl, rfl, rfl, rfl, rfl⟩ rfl rfl rfl rfl rfl (by kernel_rfl) Try.func4 (by kernel_rfl)
    (of_decide_eq_true (by kernel_rfl)) (by unfold Func.isWrapper; first | (rw [if_pos (by decide +kernel)]; kernel_rfl) | (rw [if_neg (by decide +kernel)]; exact ⟨rfl, rfl⟩))
    (fun os started H enc _ => lifted os started H enc)

theorem proved : Rows.TapeStaysSaid := over
#print axioms proved
end Go.Proofs.Ytafpbgogjnbfpaa.tapeStays
