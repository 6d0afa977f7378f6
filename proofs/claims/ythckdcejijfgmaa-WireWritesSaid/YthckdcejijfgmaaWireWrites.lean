/-
  WireWrites answers true of any number and any row of items, and writes nothing that was there. No condition.
-/
import Derived.Test.YthckdcejijfgmaaRows
import Derived.Test.YthckdcejijfgmaaWireWant
import Derived.Outline
import Derived.Deep.QuietTactic
import Derived.BigQuiet
import Derived.WalkKit
import Derived.ProofKit
import Derived.OpenShut
import Derived.ShutString
import Derived.ChangeOld
import Derived.Below
namespace Go.Proofs.Ythckdcejijfgmaa.wireWrites
open Go.ChangeShapes Go.WideShapes Go.ChangeAt Go.RowKit
open Go.ChangeMaps (open_string shut_string)
set_option linter.unusedVariables false

theorem own : ownKnob Try.prog.godebug = none := by kernel_rfl
theorem laidOut : laidOutB Try.prog = true := by kernel_rfl

set_option maxHeartbeats 400000 in
set_option maxRecDepth 100000 in
theorem walk (a0 : Int) (a1 : Option Addr) (len1 cap1 : Nat) (its1 : Nat → Item) (w : World) (w0 : (Lit.int .i64 a0).wf = true) (w1 : Items w a1 len1 cap1 its1) :
    Calls Try.prog 3 #[.int .i64 a0, .slice a1 len1 cap1] w fun e w' => e = .returned (.bool true) ∧ Below w.heap.size w w' := by
  obtain ⟨ha0, ha9⟩ := bounds_i64 w0
  have HI := Lib.hid w1
  have hcap : len1 ≤ 9223372036854775807 := Nat.le_trans w1.1 w1.2.1
  obtain ⟨M, hM⟩ : ∃ M : Int, M = lim a0 := ⟨_, rfl⟩
  have hM0 : 0 ≤ M := by rw [hM]; exact lim_0 a0
  have hM9 : M ≤ 9223372036854775807 := by rw [hM]; exact lim_9 a0 ha9
  have hmax : max a0 0 = M := by rw [hM]; unfold lim; split <;> omega
  have HLM := Lib.hid hM
  clear w0 w1 hM
  go_enter Try.func3, Try.ntmps3
  go_wp2_with fail
  refine (few_any _ _ _ _ _ HI.out).mono ?_
  rintro e w' ⟨b, rfl, hf, rfl⟩
  have HF := Lib.hid hf
  clear hf
  cases b with
  | false =>
    go_wp2_with fail
    refine (works_any _).mono ?_
    rintro e wC ⟨rfl, hC⟩
    have HC := Lib.hid hC
    clear hC
    go_wp2_with fail
    go_ret
    exact ⟨rfl, HC.out⟩
  | true =>
    have hfew := HF.out rfl
    have hlen : len1 ≤ 30 := hfew.1
    have HMF := Lib.hid hfew.2
    clear hfew HF
    go_wp2_with fail
    refine (new_ok w w a0 (Below.refl _ _)).mono ?_
    rintro e w1 ⟨B, rfl, hk⟩
    rw [← HLM.out] at hk
    have HK := Lib.hid (wu_new w w1 B M hk)
    clear hk
    go_wp2_with fail
    go_loopw [6, 7, 8] (fun u e i wr => ∃ (j : Nat) (S : St) (p : Option Addr) (n c : Nat), j ≤ len1 ∧ i = .int .i64 j ∧ e = .int .i64 S.1 ∧ u = .slice p n c ∧ S.2.length = n ∧ n ≤ 302 * j ∧ WU w wr B M S S.2 p n c) (fun _ _ i _ => len1 - (intOf i).toNat)
    case atStart => exact ⟨0, (0, []), none, 0, 0, Nat.zero_le _, rfl, rfl, rfl, rfl, by omega, HK.out⟩
    case round =>
      clear HK
      obtain ⟨j, ⟨y, K⟩, p, n, c, hj, rfl, rfl, rfl, hn, hnj, hwu⟩ := hrel
      replace hn : K.length = n := hn
      have HWU : Hid (WU w wr B M (y, K) K p n c) := Lib.hid hwu
      have HN := Lib.hid hn
      clear hwu hn
      by_cases hlt : j < len1
      · obtain ⟨b0, o0, he0, hi0⟩ := HI.out.2.2 (by omega)
        have HIT := Lib.hid (hi0 j hlt)
        have hm := HMF.out j hlt
        subst he0
        clear hi0
        generalize its1 j = it at *
        have hit := HIT.out.later HWU.out.below
        have c0 := hit.c0
        have c1 := hit.c1
        have c2 := hit.c2
        have c3 := hit.c3
        have HITR := Lib.hid hit
        clear hit
        go_wp2_with fail
        refine (HWU.out.put (T := putW M (y, K) it) fun v hv => put_any B v M (y, K) it _ hv HITR.out.sl HITR.out.k8 HITR.out.x64 hm hM0 hM9 (by show K.length ≤ 400000; have := HN.out; omega)).mono ?_
        rintro e w5 ⟨rfl, hwu⟩
        have HW5 := Lib.hid hwu
        have hit := HIT.out.later hwu.below
        clear hwu c0 c1 c2 c3 HITR
        have c0 := hit.c0
        have c1 := hit.c1
        have c2 := hit.c2
        have c3 := hit.c3
        have HTO := Lib.hid (told_any it _ hit.sl hit.k8 hit.x64 hm)
        have hll : it.L.length ≤ 300 := by rw [hit.sl.len]; exact hm
        have HPT := Lib.hid (putW_told M (y, K) it hit.x64 (by omega))
        have htl := told_len it hll
        have HTT := Lib.hid (told_two it)
        clear hit
        go_wp2_with fail
        generalize told it = A at *
        obtain ⟨t, bd⟩ := A
        replace htl : t.length ≤ 302 := htl
        refine HTO.out.mono ?_
        rintro e w6 ⟨q, m, d, rfl, hs, hb⟩
        have hs' : Sl w6 q m d t := hs
        have hmt : t.length = m := hs'.len
        have HW6 := Lib.hid (HW5.out.later hb)
        have HS6 := Lib.hid hs'
        have HMT := Lib.hid hmt
        have hm302 : m ≤ 302 := by omega
        clear hs hs' hb hmt c0 c1 c2 c3 HTO HW5 HWU
        replace HPT : Hid (putW M (y, K) it = if bd = 0 then rawW M (y, K) t else bad 1 (y, K)) := HPT
        by_cases hy : y = 0
        · subst hy
          rcases (show bd = 0 ∨ (bd = 1 ∧ t = []) from HTT.out) with hbd | ⟨hbd, ht⟩
          · subst hbd
            by_cases hlong : M < (n : Int) + (m : Int)
            · have HW7 : Hid (WU w w6 B M (7, K) K p n c) := Lib.hid (by
                have h := HW6.out
                rw [HPT.out, if_pos rfl, rawW, if_pos rfl, if_pos (show M < ((K.length : Nat) : Int) + ((t.length : Nat) : Int) by rw [HN.out, HMT.out]; exact hlong)] at h
                exact h)
              have hcmp : M - (n : Int) < (m : Int) := by omega
              clear HW6 HPT HTT
              go_wp2_with fail
              refine (wu_len w _ B M _ K p n c HW7.out n HN.out).mono ?_
              rintro e w8 ⟨rfl, rfl⟩
              go_wp2_with fail
              go_roundw
              case rel => exact ⟨j + 1, _, p, n, c, by omega, by go_num, rfl, rfl, HN.out, by omega, HW7.out⟩
              case measure => simp [intOf]; omega
            · have HW7 : Hid (WU w w6 B M (0, K ++ t) K p n c) := Lib.hid (by
                have h := HW6.out
                rw [HPT.out, if_pos rfl, rawW, if_pos rfl, if_neg (show ¬ M < ((K.length : Nat) : Int) + ((t.length : Nat) : Int) by rw [HN.out, HMT.out]; exact hlong)] at h
                exact h)
              have hcmp : ¬ M - (n : Int) < (m : Int) := by omega
              have HRW := Lib.hid HW7.out.row
              clear HW6 HPT HTT
              go_wp2_with (at_builtin; refine wpList_append_row rfl _ _ rfl _ _ K rfl HRW.out _ _ _ t rfl HS6.out (by omega) ?_)
              intro u' w7 hr hc hk
              obtain ⟨p', c', rfl, _⟩ := hr.sl
              have HW8 : Hid (WU w w7 B M (0, K ++ t) (K ++ t) p' (n + m) c') := Lib.hid (HW7.out.push hr hc hk)
              have HN8 : Hid ((K ++ t).length = n + m) := Lib.hid hr.len
              clear hr hc hk HW7 HRW
              go_wp2_with fail
              refine (wu_len w _ B M _ _ p' (n + m) c' HW8.out (n + m) HN8.out).mono ?_
              rintro e w8 ⟨rfl, rfl⟩
              go_wp2_with fail
              go_roundw
              case rel => exact ⟨j + 1, (0, K ++ t), p', n + m, c', by omega, by go_num, rfl, rfl, HN8.out, by omega, HW8.out⟩
              case measure => simp [intOf]; omega
          · subst hbd
            have HW7 : Hid (WU w w6 B M (1, K) K p n c) := Lib.hid (by
              have h := HW6.out
              rw [HPT.out, if_neg (by omega)] at h
              exact h)
            clear HW6 HPT HTT ht
            go_wp2_with fail
            refine (wu_len w _ B M _ K p n c HW7.out n HN.out).mono ?_
            rintro e w8 ⟨rfl, rfl⟩
            go_wp2_with fail
            go_roundw
            case rel => exact ⟨j + 1, _, p, n, c, by omega, by go_num, rfl, rfl, HN.out, by omega, HW7.out⟩
            case measure => simp [intOf]; omega
        · have hy1 : (y == 0) = false := by simpa using hy
          have HW7 : Hid (WU w w6 B M (y, K) K p n c) := Lib.hid (by
            have h := HW6.out
            rw [HPT.out, bad_wrong2 1 (y, K) hy, rawW, if_neg (show ¬ (y, K).1 = 0 from hy), ite_self] at h
            exact h)
          clear HW6 HPT HTT
          go_wp2_with fail
          refine (wu_len w _ B M _ K p n c HW7.out n HN.out).mono ?_
          rintro e w8 ⟨rfl, rfl⟩
          go_wp2_with fail
          go_roundw
          case rel => exact ⟨j + 1, _, p, n, c, by omega, by go_num, rfl, rfl, HN.out, by omega, HW7.out⟩
          case measure => simp [intOf]; omega
      · obtain rfl : j = len1 := by omega
        go_wp2_with fail
        refine (wu_done w _ B M (y, K) K p n c HWU.out (by show K.length ≤ 100000; have := HN.out; omega)).mono ?_
        rintro e w5 ⟨hwu, hd⟩
        have HB5 := Lib.hid hwu.below
        have hsu : Sl w5 p n c K := by
          obtain ⟨p2, c2, he, _, hs, _⟩ := hwu.row.sl
          cases he
          exact hs
        have hcu := conv_sl hsu
        clear hwu hsu HWU
        by_cases hy : y = 0
        · subst hy
          rw [if_pos rfl] at hd
          obtain ⟨q, m, d, rfl, hs⟩ := hd
          have hcq : (convert 27 9 (.slice q m d)).run Try.prog w5 = .ok (.string (strOf K)) w5 := conv_sl hs
          clear hs
          go_wp2_with fail
          refine (works_any _).mono ?_
          rintro e wC ⟨rfl, hC⟩
          have HC := Lib.hid (HB5.out.trans (hC.mono HB5.out.size))
          clear hC hcq hcu
          go_wp2_with fail
          go_ret
          exact ⟨rfl, HC.out⟩
        · rw [if_neg (show ¬ (y, K).1 = 0 from hy)] at hd
          subst hd
          have hy1 : (y != 0) = true := by simpa using hy
          clear hcu
          go_wp2_with fail
          refine (works_any _).mono ?_
          rintro e wC ⟨rfl, hC⟩
          have HC := Lib.hid (HB5.out.trans (hC.mono HB5.out.size))
          clear hC
          go_wp2_with fail
          go_ret
          exact ⟨rfl, HC.out⟩

set_option maxRecDepth 100000 in
theorem lifted (os : Os) (started : os.Started) (H : Type) (enc : TypeId × Value → H) :
    ReturnsInHanded {} Try.checked os 3 .any (Rows.wireWritesSpec.pre6 enc Try.prog Try.f3 Rows.wireWritesRow.domain false) (Rows.wireWritesSpec.post enc Try.prog Try.f3 false true false false) := by
  refine returnsInHanded_of_change (C := Try.checked) own started (by kernel_rfl) Try.func3
    (ChangeSpec.witness6 (enc := enc) (C := Try.checked) false ⟨#[], #[.int .i64 0, .slice none 0 0], []⟩ 8 (by kernel_rfl) (by kernel_rfl) (by kernel_rfl) (by kernel_rfl)) ?_
  intro W base args ds gs before hval0 hW hcnd _
  have hval : ∀ (j : Nat) t v, Try.f3.params[j]? = some t → args[j]? = some v → Value.okWide Try.prog W .any base t v := hval0
  have hW' := hW
  obtain ⟨p, q, hA0, hV, rfl, hfz, hnd⟩ := hW
  have hA : DataW.TrodAll enc Try.prog W 0 (fun _ => true) true Try.f3.params.toList args.toList ds p := hA0
  rw [Try.params3] at hA hval
  obtain ⟨v0, vs0, d0, ds0, p0, q0, hargs, rfl, rfl, h0, r0⟩ := trodAll_cons hA
  obtain ⟨v1, vs1, d1, ds1, p1, q1, rfl, rfl, rfl, h1, r1⟩ := trodAll_cons r0
  obtain ⟨rfl, rfl, rfl⟩ := trodAll_nil r1
  obtain rfl : args = #[v0, v1] := by cases args; simp_all
  obtain ⟨rfl, rfl⟩ := trodVars_none hV
  have k0 := h0
  have lt0 : ∀ x ∈ p0, x.block < W.heap.size := by obtain ⟨m, hm⟩ := k0; exact DataW.trod_lt m _ _ _ hm
  obtain ⟨a0, rfl, rfl, rfl, w0⟩ := open_int Try.underlying3 (hval 0 3 v0 rfl rfl) h0
  obtain ⟨a1, len1, cap1, rfl⟩ := okWide_slice Try.underlying22 (hval 1 22 v1 rfl rfl)
  have k1 := h1
  have lt1 : ∀ x ∈ p1, x.block < W.heap.size := by obtain ⟨m, hm⟩ := k1; exact DataW.trod_lt m _ _ _ hm
  obtain ⟨its1, w1⟩ : ∃ its, Items W a1 len1 cap1 its := by
    obtain ⟨fuel, hf⟩ := h1
    exact open_items hf
  clear hA0 hval0
  refine (walk a0 a1 len1 cap1 its1 W w0 w1).mono fun e W' ⟨he, bel⟩ => ?_
  subst he
  exact ⟨_, rfl, _, _, _, [], _, [], hW', trodAll_mk1 (shut_bool Try.underlying4 _), (trodAll_cons_mk (Below.trod laidOut (by kernel_rfl) (of_decide_eq_true (by kernel_rfl)) k0 bel lt0) (trodAll_cons_mk (Below.trod laidOut (by kernel_rfl) (of_decide_eq_true (by kernel_rfl)) k1 bel lt1) trodAll_mk0)), rfl, bel.frame _, fun h => by cases h⟩

theorem over : Rows.wireWritesRow.holds Try.pinned (OpenSpec.ofChange Rows.wireWritesSpec) :=
  OpenClaim.holds_of_wide 3 Try.f3 rfl rfl rfl rfl rfl rfl rfl ⟨rfl, rfl, rfl, rfl, rfl⟩ rfl rfl rfl rfl rfl (by kernel_rfl) Try.func3 (by kernel_rfl)
    (of_decide_eq_true (by kernel_rfl)) (by unfold Func.isWrapper; first | (rw [if_pos (by decide +kernel)]; kernel_rfl) | (rw [if_neg (by decide +kernel)]; exact ⟨rfl, rfl⟩))
    (fun os started H enc _ => lifted os started H enc)

theorem proved : Rows.WireWritesSaid := over
#print axioms proved
end Go.Proofs.Ythckdcejijfgmaa.wireWrites
