/-
  TapeApart answers true of any acts and any two acts, and writes nothing that was there. No condition.
PLAIN4
-/
import Derived.Test.YtafpbgogjnbfpaaRows
import Derived.Test.YtafpbgogjnbfpaaTapeDuo
import Derived.Deep.RegionLaw
import Derived.WalkKit
import Derived.ProofKit
import Derived.OpenShut
import Derived.ShutString
import Derived.ChangeOld
import Derived.Below
namespace Go.Proofs.Ytafpbgogjnbfpaa.tapeApart
open Go.ChangeShapes Go.WideShapes Go.ChangeAt Go.RowKit
open Go.ChangeMaps (open_string shut_string)
set_option linter.unusedVariables false

theorem own : ownKnob Try.prog.godebug = none := by kernel_rfl
theorem laidOut : laidOutB Try.prog = true := by kernel_rfl

set_option maxHeartbeats 1000000 in
set_option maxRecDepth 100000 in
theorem walk (a0 : Option Addr) (len0 cap0 : Nat) (L0 : List Ac) (a1 : Array Value) (a2 : Array Value) (w : World) (w0 : AL w a0 len0 cap0 L0 ∧ ∀ y ∈ L0, AnyA y) (w1 : ActIn w a1) (w2 : ActIn w a2) :
    Calls Try.prog 5 #[.slice a0 len0 cap0, .agg a1, .agg a2] w fun e w' => e = .returned (.bool true) ∧ Below w.heap.size w w' := by
  obtain ⟨hA, _⟩ := w0
  obtain ⟨ya, rfl, hba⟩ := w1
  obtain ⟨yb, rfl, hbb⟩ := w2
  have hb0 : Below w.heap.size w ((w.alloc (.cells (ac ya).toArray 33)).alloc (.cells (ac yb).toArray 33)) := ((Below.refl _ _).alloc (Nat.le_refl _) _).alloc (by simp) _
  have HA := Lib.hid (hA.later hb0)
  have HBA : Hid (BL ((w.alloc (.cells (ac ya).toArray 33)).alloc (.cells (ac yb).toArray 33)) ya.q ya.m ya.cq ya.b ∧ ya.k < 256) := Lib.hid ⟨SlG.later hba.1 hb0, hba.2⟩
  have HBB : Hid (BL ((w.alloc (.cells (ac ya).toArray 33)).alloc (.cells (ac yb).toArray 33)) yb.q yb.m yb.cq yb.b ∧ yb.k < 256) := Lib.hid ⟨SlG.later hbb.1 hb0, hbb.2⟩
  have HB0 := Lib.hid hb0
  have hs1 : (w.alloc (.cells (ac ya).toArray 33)).heap.size = w.heap.size + 1 := by simp
  have h4 := block_later (alloc_block w (.cells (ac ya).toArray 33)) ((Below.refl _ _).alloc (Nat.le_refl _) (.cells (ac yb).toArray 33))
  have h5 := alloc_block (w.alloc (.cells (ac ya).toArray 33)) (.cells (ac yb).toArray 33)
  rw [hs1] at h5
  have H4 := Lib.hid h4
  have H5 := Lib.hid h5
  clear hA hba hbb hb0 h4 h5 hs1
  unfold ac at *
  have hf := few_any a0 len0 cap0 L0 _ HA.out
  go_enter Try.func5, Try.ntmps5
  go_wp2_with fail
  refine hf.mono ?_
  rintro e w' ⟨⟨tf, rfl, hlen⟩, rfl⟩
  cases tf with
  | false =>
    go_wp2_with fail
    refine (tape_works _).mono ?_
    rintro e W3 ⟨rfl, hb3⟩
    have HB3 := Lib.hid (HB0.out.trans (hb3.mono HB0.out.size))
    clear hb3
    go_wp2_with fail
    go_ret
    exact ⟨rfl, HB3.out⟩
  | true =>
    obtain ⟨hl40, hm6⟩ := hlen rfl
    have HM6 := Lib.hid hm6
    clear hf hlen hm6
    go_wp2_with fail
    have hw0s : ((w.alloc (.cells #[.int .u8 (ya.k : Nat), .slice ya.q ya.m ya.cq, .int .i64 ya.x] 33)).alloc (.cells #[.int .u8 (yb.k : Nat), .slice yb.q yb.m yb.cq, .int .i64 yb.x] 33)).heap.size = w.heap.size + 1 + 1 := by simp
    have HS0 := Lib.hid hw0s
    clear hw0s
    generalize hW0 : (w.alloc (.cells #[.int .u8 (ya.k : Nat), .slice ya.q ya.m ya.cq, .int .i64 ya.x] 33)).alloc (.cells #[.int .u8 (yb.k : Nat), .slice yb.q yb.m yb.cq, .int .i64 yb.x] 33) = W0 at *
    clear hW0
    have h2a := two_acts W0 ya yb HBA.out HBB.out
    rw [HS0.out] at h2a
    have hf2 := few_any _ 2 2 _ _ h2a
    have hb1 : Below W0.heap.size W0 (W0.alloc (.cells #[.int .u8 (ya.k : Nat), .slice ya.q ya.m ya.cq, .int .i64 ya.x, .int .u8 (yb.k : Nat), .slice yb.q yb.m yb.cq, .int .i64 yb.x] 33)) := (Below.refl _ _).alloc (Nat.le_refl _) _
    have HB1 := Lib.hid (HB0.out.trans (hb1.mono HB0.out.size))
    have H41 := Lib.hid (block_later H4.out hb1)
    have H51 := Lib.hid (block_later H5.out hb1)
    have HA1 := Lib.hid (HA.out.later hb1)
    have HYA := Lib.hid (And.intro (SlG.later HBA.out.1 hb1) HBA.out.2)
    have HYB := Lib.hid (And.intro (SlG.later HBB.out.1 hb1) HBB.out.2)
    clear hb1 h2a HB0 HA H4 H5 HBA HBB
    refine hf2.mono ?_
    rintro e w1 ⟨⟨tf, rfl, hlen2⟩, rfl⟩
    generalize W0.alloc (.cells #[.int .u8 (ya.k : Nat), .slice ya.q ya.m ya.cq, .int .i64 ya.x, .int .u8 (yb.k : Nat), .slice yb.q yb.m yb.cq, .int .i64 yb.x] 33) = W1 at *
    clear hf2 HS0
    cases tf with
    | false =>
      go_wp2_with fail
      refine (tape_works _).mono ?_
      rintro e W3 ⟨rfl, hb3⟩
      have HB3 := Lib.hid (HB1.out.trans (hb3.mono HB1.out.size))
      clear hb3
      go_wp2_with fail
      go_ret
      exact ⟨rfl, HB3.out⟩
    | true =>
      have HMA : Hid (ya.m ≤ 600) := Lib.hid ((hlen2 rfl).2 0 (by omega))
      have HMB : Hid (yb.m ≤ 600) := Lib.hid ((hlen2 rfl).2 1 (by omega))
      clear hlen2
      go_wp2_with fail
      refine (tape_new 80 W1).mono ?_
      rintro e W2 ⟨rfl, hW2⟩
      have hrn := refnew_any 80 W2
      obtain ⟨s, hs⟩ : ∃ s, s = cl 80 64 4096 := ⟨_, rfl⟩
      rw [← hs] at hrn
      have HS := Lib.hid hs
      have HW2 := Lib.hid hW2
      clear hW2 hs
      go_wp2_with fail
      refine hrn.mono ?_
      rintro e W3 ⟨rfl, hb3⟩
      rw [HW2.out] at hb3
      have HPL := Lib.hid (pl_start HS.out hb3)
      have h64 := HPL.out.tp.s_in
      clear hrn hb3
      go_wp2_with fail
      generalize W3.alloc (.cells #[.slice none 0 0, .int .i64 0, .int .i64 (s : Nat)] 29) = W4 at *
      generalize hX1 : W1.heap.size = X1 at *
      have HX1 := Lib.hid hX1
      clear hX1
      generalize W3.heap.size = X9 at *
      go_loopw [9] (fun i wr => ∃ (j : Nat) (p : Option Addr) (c : Nat) (mb : Option Nat) (Q : Nat → Prop) (t : TS), j ≤ len0 ∧ i = .int .i64 (j : Nat) ∧ Hid (Pl W1 wr X1 mb Q 80 s X9 p c t) ∧ Hid (t.f * s + t.B.length ≤ j * 600)) (fun i _ => len0 - (intOf i).toNat)
      case atStart => exact ⟨0, none, 0, _, _, _, Nat.zero_le _, rfl, HPL, Lib.hid (by simp)⟩
      case round =>
        obtain ⟨j, p, c, mb, Q, t, hj, rfl, HP, HB⟩ := hrel
        by_cases hlt : j < len0
        · have hlt' : (j : Int) < len0 := by omega
          obtain ⟨ab, ao, rfl, _, ⟨d0', d1', d2'⟩, _⟩ := (HA1.out.later HP.out.below).at hlt
          have hy : BL W1 (L0.getD j ac0).q (L0.getD j ac0).m (L0.getD j ac0).cq (L0.getD j ac0).b ∧ (L0.getD j ac0).k < 256 := by
            obtain ⟨_, _, _, _, _, h⟩ := HA1.out.at hlt
            exact h
          have hm := HM6.out j hlt
          have hbd : t.f * s + t.B.length ≤ 24000 := by
            have := HB.out
            have : j * 600 ≤ 40 * 600 := Nat.mul_le_mul_right _ (by omega)
            omega
          have HC := Lib.hid (HP.out.calls hy hm hbd)
          have HBN : Hid ((actT s t (L0.getD j ac0).k (L0.getD j ac0).b (L0.getD j ac0).x).f * s + (actT s t (L0.getD j ac0).k (L0.getD j ac0).b (L0.getD j ac0).x).B.length ≤ (j + 1) * 600) := Lib.hid (by
            have h1 := act_len (s := s) (by omega) t (L0.getD j ac0).k (L0.getD j ac0).b (L0.getD j ac0).x
            have h2 := HB.out
            have h3 := hy.1.len
            rw [Nat.add_mul]
            omega)
          have x0 := block_cell (j := 0) HP.out.blk (v := .slice p t.B.length c) rfl
          have x1 := block_cell (j := 1) HP.out.blk (v := .int .i64 (t.f * s : Nat)) rfl
          have x2 := block_cell (j := 2) HP.out.blk (v := .int .i64 (s : Nat)) rfl
          clear hy hm hbd
          generalize actT s t (L0.getD j ac0).k (L0.getD j ac0).b (L0.getD j ac0).x = t' at *
          generalize (L0.getD j ac0).k = yk at *
          generalize (L0.getD j ac0).q = yq at *
          generalize (L0.getD j ac0).m = ym at *
          generalize (L0.getD j ac0).cq = yc at *
          generalize (L0.getD j ac0).b = yb' at *
          generalize (L0.getD j ac0).x = yx at *
          have HPA := Lib.hid fun q w5 e (hd : Did (wr.drewN q) X1 Q 80 s s p t t' t' e w5) => HP.out.act hd
          generalize t.B.length = n at *
          generalize t.f * s = F at *
          unfold rv at HC
          go_wp2_with fail
          go_region_law (first
            | (go_simp; go_at_call 11; refine (HC.out _).mono ?_; rintro e w5 hd5; obtain ⟨p', c', n', F', mb', Q', rfl, ⟨z0, z1, z2, f0, f1, f2⟩, hn', hF', HPN⟩ := HPA.out _ w5 e hd5; clear hd5))
          all_goals
            generalize ((w5.setCell ⟨X9, 0, none⟩ (.slice p' n' c')).setCell ⟨X9, 1, none⟩ (.int .i64 (F' : Nat))).setCell ⟨X9, 2, none⟩ (.int .i64 (s : Nat)) = W6 at *
            clear z0 z1 z2 f0 f1 f2 d0' d1' d2'
            go_wp2_with fail
            go_roundw
            case rel => exact ⟨j + 1, p', c', mb', Q', t', by omega, by go_num, HPN, HBN⟩
            case measure => simp [intOf]; omega
        · obtain rfl : len0 = j := by omega
          have hbd : t.f * s + t.B.length ≤ 24000 := by
            have := HB.out
            have : len0 * 600 ≤ 40 * 600 := Nat.mul_le_mul_right _ (by omega)
            omega
          have hcp := tape_copy HP.out.tp (by omega)
          have HBD := Lib.hid hbd
          go_wp2_with fail
          refine hcp.mono ?_
          rintro e W5 ⟨rfl, ⟨mu, hu⟩, hb5⟩
          have HD := Lib.hid (HP.out.copied hu hb5)
          have hdl := block_lt hu.blk
          clear hcp hu
          obtain ⟨XU, hXU⟩ : ∃ XU, wr.heap.size = XU := ⟨_, rfl⟩
          rw [hXU] at hb5 HD
          (try simp only [hXU])
          generalize (fun k => XU ≤ k ∧ k < W5.heap.size) = R at HD
          have hc1 := HD.out.calls HYA.out HMA.out HBD.out
          have x0 := block_cell (j := 0) HD.out.blk (v := .slice p t.B.length c) rfl
          have x1 := block_cell (j := 1) HD.out.blk (v := .int .i64 (t.f * s : Nat)) rfl
          have x2 := block_cell (j := 2) HD.out.blk (v := .int .i64 (s : Nat)) rfl
          have h45 := block_later H41.out HD.out.below
          have a0' := block_cell (j := 0) h45 (v := .int .u8 (ya.k : Nat)) rfl
          have a1' := block_cell (j := 1) h45 (v := .slice ya.q ya.m ya.cq) rfl
          have a2' := block_cell (j := 2) h45 (v := .int .i64 ya.x) rfl
          have HA2 := Lib.hid fun w5 e (hd : Did W5 X1 Q 80 s s p t (actT s t ya.k ya.b ya.x) (actT s t ya.k ya.b ya.x) e w5) => HD.out.act hd
          have HBA : Hid ((actT s t ya.k ya.b ya.x).f * s + (actT s t ya.k ya.b ya.x).B.length ≤ 1000000) := Lib.hid (by
            have h1 := act_len (s := s) (by omega) t ya.k ya.b ya.x
            have h2 := HBD.out
            have h3 := HYA.out.1.len
            have h4 := HMA.out
            omega)
          have HBB : Hid ((actT s t yb.k yb.b yb.x).f * s + (actT s t yb.k yb.b yb.x).B.length ≤ 1000000) := Lib.hid (by
            have h1 := act_len (s := s) (by omega) t yb.k yb.b yb.x
            have h2 := HBD.out
            have h3 := HYB.out.1.len
            have h4 := HMB.out
            omega)
          have HC2 := Lib.hid fun W6 mb1 Q1 XA pa ca ta (h : Duo1 W1 W6 X1 mb1 Q1 XU mu R 80 s X9 p c t XA pa ca ta) => And.intro (h.calls HYB.out HMB.out HBD.out) (fun w5 e hd => h.act (tb := actT s t yb.k yb.b yb.x) (w5 := w5) (e := e) hd)
          generalize actT s t ya.k ya.b ya.x = ta at *
          generalize actT s t yb.k yb.b yb.x = tb at *
          unfold rv at hc1
          have HC1 := Lib.hid hc1
          clear hc1 h45 hb5
          generalize hn : t.B.length = n at *
          generalize hF : t.f * s = F at *
          have HN := Lib.hid hn
          have HF := Lib.hid hF
          clear hn hF
          go_wp2_with fail
          refine HC1.out.mono ?_
          rintro e w5 hd5
          obtain ⟨pa, na, ca, Fa, mb1, Q1, rfl, HNA, HFA, HD1⟩ := HA2.out _ e hd5
          clear hd5 HC1 HA2 x0 x1 x2 a0' a1' a2'
          have h56 := block_later H51.out HD1.out.below
          have y0 := block_cell (j := 0) HD1.out.blk (v := .slice p n c) (by rw [HN.out]; rfl)
          have y1 := block_cell (j := 1) HD1.out.blk (v := .int .i64 (F : Nat)) (by rw [HF.out]; rfl)
          have y2 := block_cell (j := 2) HD1.out.blk (v := .int .i64 (s : Nat)) rfl
          have b0' := block_cell (j := 0) h56 (v := .int .u8 (yb.k : Nat)) rfl
          have b1' := block_cell (j := 1) h56 (v := .slice yb.q yb.m yb.cq) rfl
          have b2' := block_cell (j := 2) h56 (v := .int .i64 yb.x) rfl
          clear h56
          obtain ⟨hc2, HB2⟩ := HC2.out _ _ _ _ _ _ _ HD1.out
          have HB3 := Lib.hid HB2
          clear HB2 HC2
          unfold rv at hc2
          have HC3 := Lib.hid hc2
          clear hc2
          go_wp2_with fail
          refine HC3.out.mono ?_
          rintro e w7 hd7
          obtain ⟨pb, nb, cb, Fb, mb2, R2, rfl, HNB, HFB, HD2⟩ := HB3.out _ e hd7
          clear hd7 HC3 HB3 y0 y1 y2 b0' b1' b2'
          have hsa := same_any HD2.out.tp HBA.out pa ca HD2.out.ra 0
          have z0 := block_cell (j := 0) HD2.out.bla (v := .slice pa na ca) (by rw [HNA.out]; rfl)
          have z1 := block_cell (j := 1) HD2.out.bla (v := .int .i64 (Fa : Nat)) (by rw [HFA.out]; rfl)
          have z2 := block_cell (j := 2) HD2.out.bla (v := .int .i64 (s : Nat)) rfl
          rw [← HNA.out, ← HFA.out] at hsa
          unfold rv at hsa
          have HSA := Lib.hid hsa
          clear hsa
          go_wp2_with fail
          refine HSA.out.mono ?_
          rintro e W8 ⟨rfl, hb8⟩
          have HD3 := Lib.hid (HD2.out.later hb8)
          clear hb8 HSA z0 z1 z2 HD2
          have hsb := same_any HD3.out.tu HBB.out pb cb HD3.out.rb 0
          have z0 := block_cell (j := 0) HD3.out.blb (v := .slice pb nb cb) (by rw [HNB.out]; rfl)
          have z1 := block_cell (j := 1) HD3.out.blb (v := .int .i64 (Fb : Nat)) (by rw [HFB.out]; rfl)
          have z2 := block_cell (j := 2) HD3.out.blb (v := .int .i64 (s : Nat)) rfl
          rw [← HNB.out, ← HFB.out] at hsb
          unfold rv at hsb
          have HSB := Lib.hid hsb
          clear hsb
          go_wp2_with fail
          refine HSB.out.mono ?_
          rintro e W9 ⟨rfl, hb9⟩
          have HB9 := Lib.hid (HB1.out.trans ((HD3.out.later hb9).below.mono HB1.out.size))
          clear hb9 HSB z0 z1 z2 HD3
          go_wp2_with fail
          refine (tape_works _).mono ?_
          rintro e W10 ⟨rfl, hb10⟩
          have HB10 := Lib.hid (HB9.out.trans (hb10.mono HB9.out.size))
          clear hb10
          go_wp2_with fail
          go_ret
          exact ⟨rfl, HB10.out⟩

set_option maxRecDepth 100000 in
theorem lifted (os : Os) (started : os.Started) (H : Type) (enc : TypeId × Value → H) :
    ReturnsInHanded {} Try.checked os 5 .any (Rows.tapeApartSpec.pre6 enc Try.prog Try.f5 Rows.tapeApartRow.domain false) (Rows.tapeApartSpec.post enc Try.prog Try.f5 false true false false) := by
  refine returnsInHanded_of_change (C := Try.checked) own started (by kernel_rfl) Try.func5
    (ChangeSpec.witness6 (enc := enc) (C := Try.checked) false ⟨#[], #[.slice none 0 0, .agg #[.int .u8 0, .slice none 0 0, .int .i64 0], .agg #[.int .u8 0, .slice none 0 0, .int .i64 0]], []⟩ 8 (by kernel_rfl) (by kernel_rfl) (by kernel_rfl) (by kernel_rfl)) ?_
  intro W base args ds gs before hval0 hW hcnd _
  have hval : ∀ (j : Nat) t v, Try.f5.params[j]? = some t → args[j]? = some v → Value.okWide Try.prog W .any base t v := hval0
  have hW' := hW
  obtain ⟨p, q, hA0, hV, rfl, hfz, hnd⟩ := hW
  have hA : DataW.TrodAll enc Try.prog W 0 (fun _ => true) true Try.f5.params.toList args.toList ds p := hA0
  rw [Try.params5] at hA hval
  obtain ⟨v0, vs0, d0, ds0, p0, q0, hargs, rfl, rfl, h0, r0⟩ := trodAll_cons hA
  obtain ⟨v1, vs1, d1, ds1, p1, q1, rfl, rfl, rfl, h1, r1⟩ := trodAll_cons r0
  obtain ⟨v2, vs2, d2, ds2, p2, q2, rfl, rfl, rfl, h2, r2⟩ := trodAll_cons r1
  obtain ⟨rfl, rfl, rfl⟩ := trodAll_nil r2
  obtain rfl : args = #[v0, v1, v2] := by cases args; simp_all
  obtain ⟨rfl, rfl⟩ := trodVars_none hV
  obtain ⟨a0, len0, cap0, rfl⟩ := okWide_slice Try.underlying22 (hval 0 22 v0 rfl rfl)
  have k0 := h0
  have lt0 : ∀ x ∈ p0, x.block < W.heap.size := by obtain ⟨m, hm⟩ := k0; exact DataW.trod_lt m _ _ _ hm
  obtain ⟨L0, w0⟩ : ∃ L, AL W a0 len0 cap0 L ∧ ∀ y ∈ L, AnyA y := by
    obtain ⟨fuel, hf⟩ := h0
    exact open_acts hf
  have k1 := h1
  have lt1 : ∀ x ∈ p1, x.block < W.heap.size := by obtain ⟨m, hm⟩ := k1; exact DataW.trod_lt m _ _ _ hm
  obtain ⟨a1, rfl, w1⟩ := open_act (hval 1 33 v1 rfl rfl) h1
  have k2 := h2
  have lt2 : ∀ x ∈ p2, x.block < W.heap.size := by obtain ⟨m, hm⟩ := k2; exact DataW.trod_lt m _ _ _ hm
  obtain ⟨a2, rfl, w2⟩ := open_act (hval 2 33 v2 rfl rfl) h2
  clear hA0 hval0
  refine (walk a0 len0 cap0 L0 a1 a2 W w0 w1 w2).mono fun e W' ⟨he, bel⟩ => ?_
  subst he
  exact ⟨_, rfl, _, _, _, [], _, [], hW', trodAll_mk1 (shut_bool Try.underlying4 _), (trodAll_cons_mk (Below.trod laidOut (by kernel_rfl) (of_decide_eq_true (by kernel_rfl)) k0 bel lt0) (trodAll_cons_mk (Below.trod laidOut (by kernel_rfl) (of_decide_eq_true (by kernel_rfl)) k1 bel lt1) (trodAll_cons_mk (Below.trod laidOut (by kernel_rfl) (of_decide_eq_true (by kernel_rfl)) k2 bel lt2) trodAll_mk0))), rfl, bel.frame _, fun h => by cases h⟩

theorem over : Rows.tapeApartRow.holds Try.pinned (OpenSpec.ofChange Rows.tapeApartSpec) :=
  OpenClaim.holds_of_wide 5 Try.f5 rfl rfl rfl rfl rfl rfl rfl ⟨rfl, rfl, rfl, rfl, rfl⟩ rfl rfl rfl rfl rfl (by kernel_rfl) Try.func5 (by kernel_rfl)
    (of_decide_eq_true (by kernel_rfl)) (by unfold Func.isWrapper; first | (rw [if_pos (by decide +kernel)]; kernel_rfl) | (rw [if_neg (by decide +kernel)]; exact ⟨rfl, rfl⟩))
    (fun os started H enc _ => lifted os started H enc)

theorem proved : Rows.TapeApartSaid := over
#print axioms proved
end Go.Proofs.Ytafpbgogjnbfpaa.tapeApart
