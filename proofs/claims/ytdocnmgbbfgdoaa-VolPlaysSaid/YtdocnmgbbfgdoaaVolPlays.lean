/-
  VolPlays answers true of any two numbers and any acts, and writes nothing that was there. No condition.
PLAIN4
-/
import Derived.Test.YtdocnmgbbfgdoaaRows
import Derived.Test.YtdocnmgbbfgdoaaVolOpen
import Derived.Test.YtdocnmgbbfgdoaaVolWorks
import Derived.Test.YtdocnmgbbfgdoaaVolSame
import Derived.Deep.RegionHeld3
import Derived.WalkKit
import Derived.ProofKit
import Derived.OpenShut
import Derived.ShutString
import Derived.ChangeOld
import Derived.Below
namespace Go.Proofs.Ytdocnmgbbfgdoaa.volPlays
open Go.ChangeShapes Go.WideShapes Go.ChangeAt Go.RowKit
open Go.ChangeMaps (open_string shut_string)
set_option linter.unusedVariables false

theorem own : ownKnob Try.prog.godebug = none := by kernel_rfl
theorem laidOut : laidOutB Try.prog = true := by kernel_rfl

set_option maxHeartbeats 1000000 in
set_option maxRecDepth 100000 in
theorem walk (a0 : Int) (a1 : Int) (a2 : Option Addr) (len2 cap2 : Nat) (L2 : List Ac) (w : World) (w0 : (Lit.int .u8 a0).wf = true) (w1 : (Lit.int .u8 a1).wf = true) (w2 : AL w a2 len2 cap2 L2 ∧ ∀ y ∈ L2, AnyA y) :
    Calls Try.prog 3 #[.int .u8 a0, .int .u8 a1, .slice a2 len2 cap2] w fun e w' => e = .returned (.bool true) ∧ Below w.heap.size w w' := by
  obtain ⟨hA, _⟩ := w2
  obtain ⟨g1, g2⟩ := bounds_u8 w0
  obtain ⟨g3, g4⟩ := bounds_u8 w1
  obtain ⟨A, rfl⟩ : ∃ A : Nat, a0 = A := ⟨a0.toNat, by omega⟩
  obtain ⟨S, rfl⟩ : ∃ S : Nat, a1 = S := ⟨a1.toNat, by omega⟩
  obtain ⟨N, hN⟩ : ∃ N : Nat, N = A % 12 := ⟨_, rfl⟩
  have hN12 : N < 12 := by omega
  have e1 : (A : Int) % 12 = (N : Int) := by omega
  have e2 : (A : Int).tmod 12 = (N : Int) := by rw [Int.tmod_eq_emod_of_nonneg (by omega)]; exact e1
  have e3 : IntKind.u8.wrap (N : Int) = (N : Int) := by rw [IntKind.wrap_u8]; omega
  have e4 : IntKind.i64.wrap (N : Int) = (N : Int) := IntWalk.i64_in _ (by omega)
  have e5 : IntKind.i64.wrap (S : Int) = (S : Int) := IntWalk.i64_in _ (by omega)
  have hf := few_any a2 len2 cap2 L2 w hA
  have HA := Lib.hid hA
  clear hN hA w0 w1
  go_enter Try.func3, Try.ntmps3
  go_wp2_with fail
  refine hf.mono ?_
  rintro e w' ⟨⟨tf, rfl, hlen⟩, rfl⟩
  cases tf with
  | false =>
    go_wp2_with fail
    refine (vol_works _).mono ?_
    rintro e W3 ⟨rfl, hb3⟩
    have HB3 := Lib.hid hb3
    clear hb3
    go_wp2_with fail
    go_ret
    exact ⟨rfl, HB3.out⟩
  | true =>
    have hl30 := hlen rfl
    clear hf hlen
    go_wp2_with fail
    have hnew := new_any (N : Nat) (S : Nat) w'
    have hk1 : kp (N : Nat) 1024 = N := by unfold kp; omega
    have hk2 : kp (S : Nat) 4096 = S := by unfold kp; omega
    rw [hk1, hk2] at hnew
    refine hnew.mono ?_
    rintro e W1 ⟨rfl, hv1, hb1⟩
    have HV1 := Lib.hid hv1
    have HB1 := Lib.hid hb1
    have hrn := refnew_any (N : Nat) (S : Nat) W1
    rw [hk1, hk2] at hrn
    clear hnew hv1 hb1 hk1 hk2
    go_wp2_with fail
    refine hrn.mono ?_
    rintro e W2 ⟨p1, c1, rfl, hr2, hb2⟩
    have hbx : Below W2.heap.size W2 (W2.alloc (.cells #[.slice p1 N c1, .int .i64 (S : Nat)] 29)) := (Below.refl _ _).alloc (Nat.le_refl _) _
    have hb13 := hb2.trans (hbx.mono hb2.size)
    have hpl : Pl w' (W2.alloc (.cells #[.slice p1 N c1, .int .i64 (S : Nat)] 29)) w'.heap.size W2.heap.size W1.heap.size N S p1 c1 (zeroV N S) :=
      ⟨HV1.out.later hb13, hr2.later hbx, alloc_block _ _, zeroV_len N S, HB1.out.trans (hb13.mono HB1.out.size), Nat.le_refl _, block_lt HV1.out.row, hb2.size⟩
    have HPL := Lib.hid hpl
    clear hrn hr2 hb2 hbx hb13 hpl
    go_wp2_with fail
    generalize W2.alloc (.cells #[.slice p1 N c1, .int .i64 (S : Nat)] 29) = W3 at *
    generalize hX1 : w'.heap.size = X1 at *
    have HX1 := Lib.hid hX1
    clear hX1
    generalize W2.heap.size = X9 at *
    generalize W1.heap.size = n0 at *
    go_loopw [10, 11] (fun ok i wr => ∃ (j : Nat) (p : Option Addr) (c : Nat) (V : List (List Int)), j ≤ len2 ∧ ok = .bool true ∧ i = .int .i64 (j : Nat) ∧ Hid (Pl w' wr X1 X9 n0 N S p c V)) (fun _ i _ => len2 - (intOf i).toNat)
    case atStart => exact ⟨0, _, _, _, Nat.zero_le _, rfl, rfl, HPL⟩
    case round =>
      obtain ⟨j, p, c, V, hj, rfl, rfl, HP⟩ := hrel
      have x0 := block_cell (j := 0) HP.out.blk (v := .slice p N c) rfl
      have x1 := block_cell (j := 1) HP.out.blk (v := .int .i64 (S : Nat)) rfl
      by_cases hlt : j < len2
      · have hlt' : (j : Int) < len2 := by omega
        obtain ⟨ab, ao, rfl, _, ⟨d0', d1', d2', d3'⟩, hab⟩ := (HA.out.later HP.out.below).at hlt
        have hab0 : BL w' (L2.getD j a0).q (L2.getD j a0).m (L2.getD j a0).cq (L2.getD j a0).b := by
          obtain ⟨_, _, _, _, _, h⟩ := HA.out.at hlt
          exact h
        have hqne : 0 < (L2.getD j a0).m → ∀ a, (L2.getD j a0).q = some a → a.block ≠ X1 + 1 := fun h0 a ha => by
          obtain ⟨b, off, he, hbl, _⟩ := BL.at hab0 h0
          rw [he] at ha
          cases ha
          have := HP.out.lo
          have := HX1.out
          show b ≠ X1 + 1
          omega
        have HC : Hid (∀ k, Calls Try.prog 11 #[.pointer (some ⟨X1, 0, none⟩), .agg #[.slice p N c, .int .i64 (S : Nat)], .agg #[.int .i64 (L2.getD j a0).i, .slice (L2.getD j a0).q (L2.getD j a0).m (L2.getD j a0).cq, .bool (L2.getD j a0).torn, .int .i64 (L2.getD j a0).x]] (wr.drewN k) (Did (wr.drewN k) n0 N S X1 (X1 + 1) (actV S V (L2.getD j a0).i (L2.getD j a0).x (L2.getD j a0).torn (L2.getD j a0).b))) := Lib.hid fun k =>
          do_any X1 (X1 + 1) S N V p c _ _ _ _ _ _ _ (wr.drewN k) n0 (by have := HP.out.lo; have := block_lt HP.out.blk; show n0 ≤ wr.heap.size; omega) HP.out.lo.2.1 (by have := HP.out.lo; omega) (HP.out.drewN k).vo (HP.out.drewN k).rv HP.out.len (BL.keep hab ((Chg.refl (fun _ => False) _).drewN k) fun _ _ _ h => h) hqne
        have HVL : Hid ((actV S V (L2.getD j a0).i (L2.getD j a0).x (L2.getD j a0).torn (L2.getD j a0).b).length = N) := Lib.hid (by rw [actV_len]; exact HP.out.len)
        generalize actV S V (L2.getD j a0).i (L2.getD j a0).x (L2.getD j a0).torn (L2.getD j a0).b = V' at *
        generalize (L2.getD j a0).i = yi at *
        generalize (L2.getD j a0).q = yq at *
        generalize (L2.getD j a0).m = ym at *
        generalize (L2.getD j a0).cq = yc at *
        generalize (L2.getD j a0).torn = yt at *
        generalize (L2.getD j a0).x = yx at *
        clear hab hab0 hqne
        go_wp2_with fail
        go_region_law (first
          | (go_simp; go_at_call 11; refine (HC.out _).mono ?_; rintro e w5 ⟨p', c', rfl, hr5, hv5, hc5⟩; obtain ⟨⟨z0, z1, z2, z3⟩, hpn⟩ := HP.out.act (p' := p') (c' := c') hr5 hv5 hc5 HVL.out))
        all_goals
          have HPN := Lib.hid hpn
          clear hpn hr5 hv5 hc5 z0 z1 z2 z3
          go_wp2_with fail
          go_roundw
          case rel => exact ⟨j + 1, _, _, _, by omega, rfl, by go_num, HPN⟩
          case measure => simp [intOf]; omega
      · obtain rfl : len2 = j := by omega
        have hsame := same_any X1 (X1 + 1) S N V _ p c wr HP.out.vo HP.out.rv HP.out.len
        go_wp2_with fail
        refine hsame.mono ?_
        rintro e W7 ⟨rfl, hb7⟩
        have HB7 := Lib.hid (HP.out.below.trans (hb7.mono HP.out.below.size))
        clear hsame hb7
        go_wp2_with fail
        refine (vol_works _).mono ?_
        rintro e W8 ⟨rfl, hb8⟩
        have HB8 := Lib.hid (HB7.out.trans (hb8.mono HB7.out.size))
        clear hb8
        go_wp2_with fail
        go_ret
        exact ⟨rfl, HB8.out⟩

set_option maxRecDepth 100000 in
theorem lifted (os : Os) (started : os.Started) (H : Type) (enc : TypeId × Value → H) :
    ReturnsInHanded {} Try.checked os 3 .any (Rows.volPlaysSpec.pre6 enc Try.prog Try.f3 Rows.volPlaysRow.domain false) (Rows.volPlaysSpec.post enc Try.prog Try.f3 false true false false) := by
  refine returnsInHanded_of_change (C := Try.checked) own started (by kernel_rfl) Try.func3
    (ChangeSpec.witness6 (enc := enc) (C := Try.checked) false ⟨#[], #[.int .u8 0, .int .u8 0, .slice none 0 0], []⟩ 8 (by kernel_rfl) (by kernel_rfl) (by kernel_rfl) (by kernel_rfl)) ?_
  intro W base args ds gs before hval0 hW hcnd _
  have hval : ∀ (j : Nat) t v, Try.f3.params[j]? = some t → args[j]? = some v → Value.okWide Try.prog W .any base t v := hval0
  have hW' := hW
  obtain ⟨p, q, hA0, hV, rfl, hfz, hnd⟩ := hW
  have hA : DataW.TrodAll enc Try.prog W 0 (fun _ => true) true Try.f3.params.toList args.toList ds p := hA0
  rw [Try.params3] at hA hval
  obtain ⟨v0, vs0, d0, ds0, p0, q0, hargs, rfl, rfl, h0, r0⟩ := trodAll_cons hA
  obtain ⟨v1, vs1, d1, ds1, p1, q1, rfl, rfl, rfl, h1, r1⟩ := trodAll_cons r0
  obtain ⟨v2, vs2, d2, ds2, p2, q2, rfl, rfl, rfl, h2, r2⟩ := trodAll_cons r1
  obtain ⟨rfl, rfl, rfl⟩ := trodAll_nil r2
  obtain rfl : args = #[v0, v1, v2] := by cases args; simp_all
  obtain ⟨rfl, rfl⟩ := trodVars_none hV
  have k0 := h0
  have lt0 : ∀ x ∈ p0, x.block < W.heap.size := by obtain ⟨m, hm⟩ := k0; exact DataW.trod_lt m _ _ _ hm
  obtain ⟨a0, rfl, rfl, rfl, w0⟩ := open_int Try.underlying5 (hval 0 5 v0 rfl rfl) h0
  have k1 := h1
  have lt1 : ∀ x ∈ p1, x.block < W.heap.size := by obtain ⟨m, hm⟩ := k1; exact DataW.trod_lt m _ _ _ hm
  obtain ⟨a1, rfl, rfl, rfl, w1⟩ := open_int Try.underlying5 (hval 1 5 v1 rfl rfl) h1
  obtain ⟨a2, len2, cap2, rfl⟩ := okWide_slice Try.underlying22 (hval 2 22 v2 rfl rfl)
  have k2 := h2
  have lt2 : ∀ x ∈ p2, x.block < W.heap.size := by obtain ⟨m, hm⟩ := k2; exact DataW.trod_lt m _ _ _ hm
  obtain ⟨L2, w2⟩ : ∃ L, AL W a2 len2 cap2 L ∧ ∀ y ∈ L, AnyA y := by
    obtain ⟨fuel, hf⟩ := h2
    exact open_acts hf
  clear hA0 hval0
  refine (walk a0 a1 a2 len2 cap2 L2 W w0 w1 w2).mono fun e W' ⟨he, bel⟩ => ?_
  subst he
  exact ⟨_, rfl, _, _, _, [], _, [], hW', trodAll_mk1 (shut_bool Try.underlying4 _), (trodAll_cons_mk (Below.trod laidOut (by kernel_rfl) (of_decide_eq_true (by kernel_rfl)) k0 bel lt0) (trodAll_cons_mk (Below.trod laidOut (by kernel_rfl) (of_decide_eq_true (by kernel_rfl)) k1 bel lt1) (trodAll_cons_mk (Below.trod laidOut (by kernel_rfl) (of_decide_eq_true (by kernel_rfl)) k2 bel lt2) trodAll_mk0))), rfl, bel.frame _, fun h => by cases h⟩

theorem over : Rows.volPlaysRow.holds Try.pinned (OpenSpec.ofChange Rows.volPlaysSpec) :=
  OpenClaim.holds_of_wide 3 Try.f3 rfl rfl rfl rfl rfl rfl rfl ⟨rfl, rfl, rfl, rfl, rfl⟩ rfl rfl rfl rfl rfl (by kernel_rfl) Try.func3 (by kernel_rfl)
    (of_decide_eq_true (by kernel_rfl)) (by unfold Func.isWrapper; first | (rw [if_pos (by decide +kernel)]; kernel_rfl) | (rw [if_neg (by decide +kernel)]; exact ⟨rfl, rfl⟩))
    (fun os started H enc _ => lifted os started H enc)

theorem proved : Rows.VolPlaysSaid := over
#print axioms proved
end Go.Proofs.Ytdocnmgbbfgdoaa.volPlays
