/-
  TapePlays answers true of any size of segments, any acts and any number, and writes nothing that was there. No condition.
PLAIN4
-/
import Derived.Test.YtafpbgogjnbfpaaRows
import Derived.Test.YtafpbgogjnbfpaaTapePl
import Derived.Deep.RegionLaw
import Derived.WalkKit
import Derived.ProofKit
import Derived.OpenShut
import Derived.ShutString
import Derived.ChangeOld
import Derived.Below
namespace Go.Proofs.Ytafpbgogjnbfpaa.tapePlays
open Go.ChangeShapes Go.WideShapes Go.ChangeAt Go.RowKit
open Go.ChangeMaps (open_string shut_string)
set_option linter.unusedVariables false

theorem own : ownKnob Try.prog.godebug = none := by kernel_rfl
theorem laidOut : laidOutB Try.prog = true := by kernel_rfl

set_option maxHeartbeats 1000000 in
set_option maxRecDepth 100000 in
theorem walk (a0 : Int) (a1 : Option Addr) (len1 cap1 : Nat) (L1 : List Ac) (a2 : Int) (w : World) (w0 : (Lit.int .i64 a0).wf = true) (w1 : AL w a1 len1 cap1 L1 ∧ ∀ y ∈ L1, AnyA y) (w2 : (Lit.int .i64 a2).wf = true) :
    Calls Try.prog 3 #[.int .i64 a0, .slice a1 len1 cap1, .int .i64 a2] w fun e w' => e = .returned (.bool true) ∧ Below w.heap.size w w' := by
  obtain ⟨hA, _⟩ := w1
  have hf := few_any a1 len1 cap1 L1 w hA
  have HA := Lib.hid hA
  clear hA w0 w2
  go_enter Try.func3, Try.ntmps3
  go_wp2_with fail
  refine hf.mono ?_
  rintro e w' ⟨⟨tf, rfl, hlen⟩, rfl⟩
  cases tf with
  | false =>
    go_wp2_with fail
    refine (tape_works _).mono ?_
    rintro e W3 ⟨rfl, hb3⟩
    have HB3 := Lib.hid hb3
    clear hb3
    go_wp2_with fail
    go_ret
    exact ⟨rfl, HB3.out⟩
  | true =>
    obtain ⟨hl40, hm6⟩ := hlen rfl
    have HM6 := Lib.hid hm6
    clear hf hlen hm6
    go_wp2_with fail
    refine (tape_new a0 w').mono ?_
    rintro e W1 ⟨rfl, hW1⟩
    have hrn := refnew_any a0 W1
    obtain ⟨s, hs⟩ : ∃ s, s = cl a0 64 4096 := ⟨_, rfl⟩
    rw [← hs] at hrn
    have HS := Lib.hid hs
    have HW1 := Lib.hid hW1
    clear hs hW1
    go_wp2_with fail
    refine hrn.mono ?_
    rintro e W2 ⟨rfl, hb2⟩
    rw [HW1.out] at hb2
    have HPL := Lib.hid (pl_start HS.out hb2)
    have h64 := HPL.out.tp.s_in
    clear hrn hb2
    go_wp2_with fail
    generalize W2.alloc (.cells #[.slice none 0 0, .int .i64 0, .int .i64 (s : Nat)] 29) = W3 at *
    generalize hX1 : w'.heap.size = X1 at *
    have HX1 := Lib.hid hX1
    clear hX1
    generalize W2.heap.size = X9 at *
    go_loopw [9] (fun i wr => ∃ (j : Nat) (p : Option Addr) (c : Nat) (mb : Option Nat) (Q : Nat → Prop) (t : TS), j ≤ len1 ∧ i = .int .i64 (j : Nat) ∧ Hid (Pl w' wr X1 mb Q a0 s X9 p c t) ∧ Hid (t.f * s + t.B.length ≤ j * 600)) (fun i _ => len1 - (intOf i).toNat)
    case atStart => exact ⟨0, none, 0, _, _, _, Nat.zero_le _, rfl, HPL, Lib.hid (by simp)⟩
    case round =>
      obtain ⟨j, p, c, mb, Q, t, hj, rfl, HP, HB⟩ := hrel
      by_cases hlt : j < len1
      · have hlt' : (j : Int) < len1 := by omega
        obtain ⟨ab, ao, rfl, _, ⟨d0', d1', d2'⟩, _⟩ := (HA.out.later HP.out.below).at hlt
        have hy : BL w' (L1.getD j ac0).q (L1.getD j ac0).m (L1.getD j ac0).cq (L1.getD j ac0).b ∧ (L1.getD j ac0).k < 256 := by
          obtain ⟨_, _, _, _, _, h⟩ := HA.out.at hlt
          exact h
        have hm := HM6.out j hlt
        have hbd : t.f * s + t.B.length ≤ 24000 := by
          have := HB.out
          have : j * 600 ≤ 40 * 600 := Nat.mul_le_mul_right _ (by omega)
          omega
        have HC := Lib.hid (HP.out.calls hy hm hbd)
        have HBN : Hid ((actT s t (L1.getD j ac0).k (L1.getD j ac0).b (L1.getD j ac0).x).f * s + (actT s t (L1.getD j ac0).k (L1.getD j ac0).b (L1.getD j ac0).x).B.length ≤ (j + 1) * 600) := Lib.hid (by
          have h1 := act_len (s := s) (by omega) t (L1.getD j ac0).k (L1.getD j ac0).b (L1.getD j ac0).x
          have h2 := HB.out
          have h3 := hy.1.len
          rw [Nat.add_mul]
          omega)
        have x0 := block_cell (j := 0) HP.out.blk (v := .slice p t.B.length c) rfl
        have x1 := block_cell (j := 1) HP.out.blk (v := .int .i64 (t.f * s : Nat)) rfl
        have x2 := block_cell (j := 2) HP.out.blk (v := .int .i64 (s : Nat)) rfl
        clear hy hm hbd
        generalize actT s t (L1.getD j ac0).k (L1.getD j ac0).b (L1.getD j ac0).x = t' at *
        generalize (L1.getD j ac0).k = yk at *
        generalize (L1.getD j ac0).q = yq at *
        generalize (L1.getD j ac0).m = ym at *
        generalize (L1.getD j ac0).cq = yc at *
        generalize (L1.getD j ac0).b = yb at *
        generalize (L1.getD j ac0).x = yx at *
        have HPA := Lib.hid fun q w5 e (hd : Did (wr.drewN q) X1 Q a0 s s p t t' t' e w5) => HP.out.act hd
        generalize t.B.length = n at *
        generalize t.f * s = F at *
        unfold rv at HC
        go_wp2_with fail
        go_region_law (first
          | (go_simp; go_at_call 11; refine (HC.out _).mono ?_; rintro e w5 hd5; obtain ⟨p', c', n', F', mb', Q', rfl, ⟨z0, z1, z2, f0, f1, f2⟩, hn', hF', HPN⟩ := HPA.out _ w5 e hd5; clear hd5))
        all_goals
          generalize ((w5.setCell ⟨X9, 0, none⟩ (.slice p' n' c')).setCell ⟨X9, 1, none⟩ (.int .i64 (F' : Nat))).setCell ⟨X9, 2, none⟩ (.int .i64 (s : Nat)) = W6 at *
          have y0 : W6.cell? ⟨X9, 0, none⟩ = some (.slice p' n' c') := block_cell (j := 0) HPN.out.blk (by rw [hn'.out]; rfl)
          have y1 : W6.cell? ⟨X9, 1, none⟩ = some (.int .i64 (F' : Nat)) := block_cell (j := 1) HPN.out.blk (by rw [hF'.out]; rfl)
          have y2 : W6.cell? ⟨X9, 2, none⟩ = some (.int .i64 (s : Nat)) := block_cell (j := 2) HPN.out.blk rfl
          have hsm := same_any HPN.out.tp (by have h1 := HBN.out; have h2 : (j + 1) * 600 ≤ 40 * 600 := Nat.mul_le_mul_right _ (by omega); omega) p' c' HPN.out.rt a2
          rw [← hn'.out, ← hF'.out] at hsm
          unfold rv at hsm
          have HSM := Lib.hid hsm
          clear hsm
          go_wp2_with fail
          refine HSM.out.mono ?_
          rintro e W7 ⟨rfl, hb7⟩
          have HP7 := Lib.hid (HPN.out.later hb7)
          clear hb7
          go_wp2_with fail
          go_roundw
          case rel => exact ⟨j + 1, p', c', mb', Q', t', by omega, by go_num, HP7, HBN⟩
          case measure => simp [intOf]; omega
      · obtain rfl : len1 = j := by omega
        have HB7 := Lib.hid HP.out.below
        go_wp2_with fail
        refine (tape_works _).mono ?_
        rintro e W8 ⟨rfl, hb8⟩
        have HB8 := Lib.hid (HB7.out.trans (hb8.mono HB7.out.size))
        clear hb8
        go_wp2_with fail
        go_ret
        exact ⟨rfl, HB8.out⟩

set_option maxRecDepth 100000 in
theorem lifted (os : Os) (started : os.Started) (H : Type) (enc : TypeId × Value → H) :
    ReturnsInHanded {} Try.checked os 3 .any (Rows.tapePlaysSpec.pre6 enc Try.prog Try.f3 Rows.tapePlaysRow.domain false) (Rows.tapePlaysSpec.post enc Try.prog Try.f3 false true false false) := by
  refine returnsInHanded_of_change (C := Try.checked) own started (by kernel_rfl) Try.func3
    (ChangeSpec.witness6 (enc := enc) (C := Try.checked) false ⟨#[], #[.int .i64 0, .slice none 0 0, .int .i64 0], []⟩ 8 (by kernel_rfl) (by kernel_rfl) (by kernel_rfl) (by kernel_rfl)) ?_
  intro W base args ds gs before hval0 hW hcnd _
  have hval : ∀ (j : Nat) t v, Try.f3.params[j]? = some t → args[j]? = some v → Value.okWide Try.prog W .any base t v := hval0
  have hW' := hW
  obtain ⟨p, q, hA0, hV, rfl, hfz, hnd⟩ := hW
  have hA : DataW.TrodAll enc Try.prog W 0 (fun _ => true) true Try.f3.params.toList args.toList ds p := hA0
  rw [Try.params3] at hA hval
  obtain ⟨v0, vs0, d0, ds0, p0, q0, hargs, rfl, rfl, h0, r0⟩ := trodAll_cons hA
  obtain ⟨v1, vs1, d1, ds1, p1, q1, rfl, rfl, rfl, h1, r1⟩ := trodAll_cons r0
  obtain ⟨v2, vs2, d2, ds2, p2, q2, rfl, rfl, rfl, h2, r2⟩ := trodAll_cons r1
  obtain ⟨rfl, rfl, rfl⟩ := trodAll_nil r2
  obtain rfl : args = #[v0, v1, v2] := by cases args; simp_all
  obtain ⟨rfl, rfl⟩ := trodVars_none hV
  have k0 := h0
  have lt0 : ∀ x ∈ p0, x.block < W.heap.size := by obtain ⟨m, hm⟩ := k0; exact DataW.trod_lt m _ _ _ hm
  obtain ⟨a0, rfl, rfl, rfl, w0⟩ := open_int Try.underlying3 (hval 0 3 v0 rfl rfl) h0
  obtain ⟨a1, len1, cap1, rfl⟩ := okWide_slice Try.underlying22 (hval 1 22 v1 rfl rfl)
  have k1 := h1
  have lt1 : ∀ x ∈ p1, x.block < W.heap.size := by obtain ⟨m, hm⟩ := k1; exact DataW.trod_lt m _ _ _ hm
  obtain ⟨L1, w1⟩ : ∃ L, AL W a1 len1 cap1 L ∧ ∀ y ∈ L, AnyA y := by
    obtain ⟨fuel, hf⟩ := h1
    exact open_acts hf
  have k2 := h2
  have lt2 : ∀ x ∈ p2, x.block < W.heap.size := by obtain ⟨m, hm⟩ := k2; exact DataW.trod_lt m _ _ _ hm
  obtain ⟨a2, rfl, rfl, rfl, w2⟩ := open_int Try.underlying2 (hval 2 2 v2 rfl rfl) h2
  clear hA0 hval0
  refine (walk a0 a1 len1 cap1 L1 a2 W w0 w1 w2).mono fun e W' ⟨he, bel⟩ => ?_
  subst he
  exact ⟨_, rfl, _, _, _, [], _, [], hW', trodAll_mk1 (shut_bool Try.underlying4 _), (trodAll_cons_mk (Below.trod laidOut (by kernel_rfl) (of_decide_eq_true (by kernel_rfl)) k0 bel lt0) (trodAll_cons_mk (Below.trod laidOut (by kernel_rfl) (of_decide_eq_true (by kernel_rfl)) k1 bel lt1) (trodAll_cons_mk (Below.trod laidOut (by kernel_rfl) (of_decide_eq_true (by kernel_rfl)) k2 bel lt2) trodAll_mk0))), rfl, bel.frame _, fun h => by cases h⟩

theorem over : Rows.tapePlaysRow.holds Try.pinned (OpenSpec.ofChange Rows.tapePlaysSpec) :=
  OpenClaim.holds_of_wide 3 Try.f3 rfl rfl rfl rfl rfl rfl rfl ⟨rfl, rfl, rfl, rfl, rfl⟩ rfl rfl rfl rfl rfl (by kernel_rfl) Try.func3 (by kernel_rfl)
    (of_decide_eq_true (by kernel_rfl)) (by unfold Func.isWrapper; first | (rw [if_pos (by decide +kernel)]; kernel_rfl) | (rw [if_neg (by decide +kernel)]; exact ⟨rfl, rfl⟩))
    (fun os started H enc _ => lifted os started H enc)

theorem proved : Rows.TapePlaysSaid := over
#print axioms proved
end Go.Proofs.Ytafpbgogjnbfpaa.tapePlays
