/-
  WireBack answers true of any row of items, and writes nothing that was there. No condition.
-/
import Derived.Test.YthckdcejijfgmaaRows
import Derived.Test.YthckdcejijfgmaaWireTrip
import Derived.Outline
import Derived.Deep.QuietTactic
import Derived.BigQuiet
import Derived.Deep.RegionHeld3
import Derived.WalkKit
import Derived.ProofKit
import Derived.OpenShut
import Derived.ShutString
import Derived.ChangeOld
import Derived.Below
namespace Go.Proofs.Ythckdcejijfgmaa.wireBack
open Go.ChangeShapes Go.WideShapes Go.ChangeAt Go.RowKit
open Go.ChangeMaps (open_string shut_string)
set_option linter.unusedVariables false

theorem own : ownKnob Try.prog.godebug = none := by kernel_rfl
theorem laidOut : laidOutB Try.prog = true := by kernel_rfl

set_option maxHeartbeats 400000 in
theorem walk (a0 : Option Addr) (len0 cap0 : Nat) (its0 : Nat → Item) (w : World) (w0 : Items w a0 len0 cap0 its0) :
    Calls Try.prog 5 #[.slice a0 len0 cap0] w fun e w' => e = .returned (.bool true) ∧ Below w.heap.size w w' := by
  have HI := Lib.hid w0
  have hcap : len0 ≤ 9223372036854775807 := Nat.le_trans w0.1 w0.2.1
  clear w0
  go_enter Try.func5, Try.ntmps5
  go_wp2_with fail
  refine (few_any _ _ _ _ _ HI.out).mono ?_
  rintro e w' ⟨b, rfl, hf, rfl⟩
  have HF := Lib.hid hf
  clear hf
  cases b with
  | false =>
    go_wp2_with fail
    refine (works_any _).mono ?_
    rintro e wC ⟨rfl, hC⟩
    have HC := Lib.hid hC
    clear hC
    go_wp2_with fail
    go_ret
    exact ⟨rfl, HC.out⟩
  | true =>
    have hfew := HF.out rfl
    have hlen : len0 ≤ 30 := hfew.1
    have HM := Lib.hid hfew.2
    clear hfew HF
    go_wp2_with fail
    refine (new_ok w w 20000 (Below.refl _ _)).mono ?_
    rintro e w1 ⟨B, rfl, hk⟩
    have HK : Hid (WrOk w w1 B 20000 (0, [])) := Lib.hid hk
    clear hk
    go_wp2_with fail
    go_loopw [4] (fun i wr => ∃ (j : Nat) (S : St), j ≤ len0 ∧ i = .int .i64 j ∧ WrOk w wr B 20000 S ∧ WInv its0 j S) (fun i _ => len0 - (intOf i).toNat)
    case atStart => exact ⟨0, _, Nat.zero_le _, rfl, HK.out, winv_start its0⟩
    case round =>
      obtain ⟨j, S, hj, rfl, hk, hinv⟩ := hrel
      have HK2 := Lib.hid hk
      have HV := Lib.hid hinv
      have hsl : S.2.length ≤ 20000 := hinv.1
      clear hk hinv HK
      by_cases hlt : j < len0
      · obtain ⟨bb, off, rfl, hi⟩ := (HI.out.later HK2.out.below).2.2 (by omega)
        have hit := hi j hlt
        have hm := HM.out j hlt
        have c0 := hit.c0
        have c1 := hit.c1
        have c2 := hit.c2
        have c3 := hit.c3
        have HT := Lib.hid hit
        clear hi hit
        generalize hq : its0 j = it at *
        have HQ := Lib.hid hq
        clear hq
        obtain ⟨k, x, n, p, m, c, L⟩ := it
        replace c0 : wr.cell? ⟨bb, off + j * 4, none⟩ = some (.int .u8 ((k : Nat) : Int)) := c0
        replace c1 : wr.cell? ⟨bb, off + j * 4 + 1, none⟩ = some (.int .u64 ((x : Nat) : Int)) := c1
        replace c2 : wr.cell? ⟨bb, off + j * 4 + 2, none⟩ = some (.int .i64 n) := c2
        replace c3 : wr.cell? ⟨bb, off + j * 4 + 3, none⟩ = some (.slice p m c) := c3
        have hk8 : k < 256 := HT.out.k8
        obtain ⟨r, hr, hr5⟩ : ∃ r : Nat, (k : Int) % 5 = (r : Int) ∧ r < 5 := ⟨k % 5, by omega, by omega⟩
        by_cases h4 : r = 4
        · subst h4
          go_wp2_with fail
          go_roundw
          case rel => exact ⟨j + 1, S, by omega, by go_num, HK2.out, winv_skip its0 j S HV.out (by rw [HQ.out]; show k % 5 = 4; omega)⟩
          case measure => simp [intOf]; omega
        · have hm' : m ≤ 300 := hm
          go_wp2_with fail
          refine (HK2.out.step (T := putW 20000 S ⟨k, x, n, p, m, c, L⟩) fun v hv => put_any B v 20000 S ⟨k, x, n, p, m, c, L⟩ _ hv HT.out.sl HT.out.k8 HT.out.x64 hm (by omega) (by omega) (by omega)).mono ?_
          rintro e w3 ⟨rfl, hk⟩
          have HK3 := Lib.hid hk
          clear hk HK2
          go_wp2_with fail
          go_roundw
          case rel =>
            refine ⟨j + 1, _, by omega, by go_num, HK3.out, ?_⟩
            rw [← HQ.out]
            exact winv_put its0 j S HV.out (by rw [HQ.out]; exact HT.out.x64) (by rw [HQ.out]; show L.length ≤ 65535; have : L.length = m := HT.out.sl.len; omega) (by rw [HQ.out]; show k % 5 ≠ 4; omega)
          case measure => simp [intOf]; omega
      · obtain rfl : j = len0 := by omega
        go_wp2_with fail
        refine (done_ok w wr B 20000 S HK2.out (by omega)).mono ?_
        rintro e w3 ⟨hb3, hd⟩
        have HB3 := Lib.hid hb3
        clear hb3
        by_cases hS : S.1 = 0
        · rw [if_pos hS] at hd
          obtain ⟨p, c, rfl, hs, hp⟩ := hd
          obtain ⟨hcat, htold⟩ := HV.out.2 hS
          replace hs : Sl w3 p S.2.length c (cat its0 0 j) := by rw [← hcat]; exact hs
          have hclen : (cat its0 0 j).length ≤ 20000 := by rw [← hcat]; exact hsl
          have HTO := Lib.hid htold
          generalize hn : S.2.length = n at *
          have HS := Lib.hid hs
          clear hs hp HK2 HV hS htold hcat hn
          go_wp2_with fail
          refine (read_ok w w3 p n c _ HS.out (by omega) HB3.out).mono ?_
          rintro e w4 ⟨R, rfl, hr, _, _⟩
          have HR : Hid (RdOk w w4 R (0, cat its0 0 j)) := Lib.hid hr
          clear hr
          go_wp2_with fail
          go_loopw [8] (fun i wr => ∃ (t : Nat), t ≤ j ∧ i = .int .i64 t ∧ RdOk w wr R (0, cat its0 t (j - t)) ∧ (cat its0 t (j - t)).length ≤ 20000) (fun i _ => j - (intOf i).toNat)
          case atStart => exact ⟨0, Nat.zero_le _, rfl, by rw [Nat.sub_zero]; exact HR.out, by rw [Nat.sub_zero]; exact hclen⟩
          case round =>
            clear HR hclen
            obtain ⟨t, ht, rfl, hr, hcl⟩ := hrel
            have HR := Lib.hid hr
            clear hr
            by_cases hlt : t < j
            · obtain ⟨bb, off, rfl, hi⟩ := (HI.out.later HR.out.below).2.2 (by omega)
              have hit := hi t hlt
              have hm := HM.out t hlt
              have c0 := hit.c0
              have c1 := hit.c1
              have c2 := hit.c2
              have c3 := hit.c3
              have HT := Lib.hid hit
              obtain ⟨b0, o0, he0, hi0⟩ := HI.out.2.2 (by omega)
              have HSL := Lib.hid (hi0 t hlt).sl
              clear hi hit hi0 he0
              obtain ⟨q, hq⟩ : ∃ q, j - t = q + 1 := ⟨j - t - 1, by omega⟩
              have hq2 : j - (t + 1) = q := by omega
              rw [hq, cat] at HR hcl
              have HTO2 := Lib.hid (HTO.out t hlt)
              generalize hrest : cat its0 (t + 1) q = rest at *
              have HRE := Lib.hid hrest
              clear hrest
              generalize hq : its0 t = it at *
              have HQ := Lib.hid hq
              clear hq
              have hk8 : it.k < 256 := HT.out.k8
              obtain ⟨r, hr, hr5⟩ : ∃ r : Nat, (it.k : Int) % 5 = (r : Int) ∧ r < 5 := ⟨it.k % 5, by omega, by omega⟩
              have hr' : it.k % 5 = r := by omega
              have HRR := Lib.hid hr'
              clear hr' hk8
              have HBS := Lib.hid (beside_new w wr R it _ HR.out)
              match r, hr5 with
              | 0, _ =>
                go_wp2_with fail
                generalize wr.alloc (.cells #[.int .u8 ((it.k : Nat) : Int), .int .u64 ((it.x : Nat) : Int), .int .i64 it.n, .slice it.p it.m it.c] 31) = W2 at *
                generalize wr.heap.size = X at *
                have hX := HBS.out.2.2.1
                have e1 := HBS.out.2.1.c1
                have e2 := HBS.out.2.1.c2
                have e3 := HBS.out.2.1.c3
                have hcl9 : ((0, piece it ++ rest) : St).2.length ≤ 90000 := Nat.le_trans hcl (by omega)
                have HC : Hid (∀ q, Calls Try.prog 21 #[.pointer (some ⟨R, 0, none⟩), .int .i64 it.n] (W2.drewN q) fun e w' => e = .returned (.int .u64 ((it.x : Nat) : Int)) ∧ Beside w (W2.drewN q) R X it (0, rest) w') := Lib.hid fun q => by
                  have := num_box w (W2.drewN q) R X it _ it.n (HBS.out.2.2.2 q).1 hcl9 hX (HBS.out.2.2.2 q).2
                  rw [read0 it rest HRR.out (HTO2.out (by have := HRR.out; omega))] at this
                  exact this
                clear c0 c1 c2 c3 hcl9
                go_region_held3 (fun w' => w'.cell? ⟨X, 1, none⟩ = some (.int .u64 ((it.x : Nat) : Int)) ∧ w'.cell? ⟨X, 2, none⟩ = some (.int .i64 it.n) ∧ w'.cell? ⟨X, 3, none⟩ = some (.slice it.p it.m it.c)) (first | exact ⟨e1, e2, e3⟩ | exact ⟨f1, f2, f3⟩) ((go_at_call 21; refine (HC.out _).mono ?_; rintro e w5 ⟨rfl, hbs⟩; have f1 := hbs.2.1.c1; have f2 := hbs.2.1.c2; have f3 := hbs.2.1.c3))
                have HR5 := Lib.hid hbs.1
                clear hbs f1 f2 f3
                go_wp2_with fail
                go_roundw
                case rel =>
                  refine ⟨t + 1, by omega, by go_num, ?_, ?_⟩
                  · rw [hq2, HRE.out]
                    exact HR5.out
                  · rw [hq2, HRE.out]
                    rw [List.length_append] at hcl
                    omega
                case measure => simp [intOf]; omega
              | 1, _ =>
                go_wp2_with fail
                generalize wr.alloc (.cells #[.int .u8 ((it.k : Nat) : Int), .int .u64 ((it.x : Nat) : Int), .int .i64 it.n, .slice it.p it.m it.c] 31) = W2 at *
                generalize wr.heap.size = X at *
                have hX := HBS.out.2.2.1
                have e1 := HBS.out.2.1.c1
                have e2 := HBS.out.2.1.c2
                have e3 := HBS.out.2.1.c3
                have hcl9 : ((0, piece it ++ rest) : St).2.length ≤ 90000 := Nat.le_trans hcl (by omega)
                have hsg := sgn_wrap2 it.x HT.out.x64
                have HC : Hid (∀ q, Calls Try.prog 22 #[.pointer (some ⟨R, 0, none⟩)] (W2.drewN q) fun e w' => e = .returned (.int .i64 (sgn it.x)) ∧ Beside w (W2.drewN q) R X it (0, rest) w') := Lib.hid fun q => by
                  have := int_box w (W2.drewN q) R X it _ (HBS.out.2.2.2 q).1 hcl9 hX (HBS.out.2.2.2 q).2
                  rw [read1 it rest HRR.out HT.out.x64] at this
                  exact this
                clear c0 c1 c2 c3 hcl9
                go_region_held3 (fun w' => w'.cell? ⟨X, 1, none⟩ = some (.int .u64 ((it.x : Nat) : Int)) ∧ w'.cell? ⟨X, 2, none⟩ = some (.int .i64 it.n) ∧ w'.cell? ⟨X, 3, none⟩ = some (.slice it.p it.m it.c)) (first | exact ⟨e1, e2, e3⟩ | exact ⟨f1, f2, f3⟩) ((go_at_call 22; refine (HC.out _).mono ?_; rintro e w5 ⟨rfl, hbs⟩; have f1 := hbs.2.1.c1; have f2 := hbs.2.1.c2; have f3 := hbs.2.1.c3))
                have HR5 := Lib.hid hbs.1
                clear hbs f1 f2 f3
                go_wp2_with fail
                go_roundw
                case rel =>
                  refine ⟨t + 1, by omega, by go_num, ?_, ?_⟩
                  · rw [hq2, HRE.out]
                    exact HR5.out
                  · rw [hq2, HRE.out]
                    rw [List.length_append] at hcl
                    omega
                case measure => simp [intOf]; omega
              | 2, _ =>
                go_wp2_with fail
                generalize wr.alloc (.cells #[.int .u8 ((it.k : Nat) : Int), .int .u64 ((it.x : Nat) : Int), .int .i64 it.n, .slice it.p it.m it.c] 31) = W2 at *
                generalize wr.heap.size = X at *
                have hX := HBS.out.2.2.1
                have e1 := HBS.out.2.1.c1
                have e2 := HBS.out.2.1.c2
                have e3 := HBS.out.2.1.c3
                have hcl9 : ((0, piece it ++ rest) : St).2.length ≤ 90000 := Nat.le_trans hcl (by omega)
                obtain ⟨bt, hbt⟩ : ∃ bt, (it.x % 2 == 1) = bt := ⟨_, rfl⟩
                have htm : ((it.x : Int).tmod 2 == 1) = bt := by rw [x_odd2]; exact hbt
                have HBT := Lib.hid hbt
                clear hbt
                have HC : Hid (∀ q, Calls Try.prog 23 #[.pointer (some ⟨R, 0, none⟩)] (W2.drewN q) fun e w' => e = .returned (.bool bt) ∧ Beside w (W2.drewN q) R X it (0, rest) w') := Lib.hid fun q => by
                  have := bool_box w (W2.drewN q) R X it _ (HBS.out.2.2.2 q).1 hcl9 hX (HBS.out.2.2.2 q).2
                  rw [read2 it rest HRR.out] at this
                  rw [← HBT.out]
                  exact this
                clear c0 c1 c2 c3 hcl9
                go_region_held3 (fun w' => w'.cell? ⟨X, 1, none⟩ = some (.int .u64 ((it.x : Nat) : Int)) ∧ w'.cell? ⟨X, 2, none⟩ = some (.int .i64 it.n) ∧ w'.cell? ⟨X, 3, none⟩ = some (.slice it.p it.m it.c)) (first | exact ⟨e1, e2, e3⟩ | exact ⟨f1, f2, f3⟩) ((go_at_call 23; refine (HC.out _).mono ?_; rintro e w5 ⟨rfl, hbs⟩; have f1 := hbs.2.1.c1; have f2 := hbs.2.1.c2; have f3 := hbs.2.1.c3))
                have HR5 := Lib.hid hbs.1
                clear hbs f1 f2 f3
                go_wp2_with fail
                go_roundw
                case rel =>
                  refine ⟨t + 1, by omega, by go_num, ?_, ?_⟩
                  · rw [hq2, HRE.out]
                    exact HR5.out
                  · rw [hq2, HRE.out]
                    rw [List.length_append] at hcl
                    omega
                case measure => simp [intOf]; omega
              | 3, _ =>
                go_wp2_with fail
                generalize wr.alloc (.cells #[.int .u8 ((it.k : Nat) : Int), .int .u64 ((it.x : Nat) : Int), .int .i64 it.n, .slice it.p it.m it.c] 31) = W2 at *
                generalize wr.heap.size = X at *
                have hX := HBS.out.2.2.1
                have e1 := HBS.out.2.1.c1
                have e2 := HBS.out.2.1.c2
                have e3 := HBS.out.2.1.c3
                have hcl9 : ((0, piece it ++ rest) : St).2.length ≤ 90000 := Nat.le_trans hcl (by omega)
                have HC : Hid (∀ q, Calls Try.prog 24 #[.pointer (some ⟨R, 0, none⟩), .int .i64 it.m] (W2.drewN q) fun e w' => ∃ Q N D, e = .returned (.slice Q N D) ∧ Sl w' Q N D it.L ∧ Beside w (W2.drewN q) R X it (0, rest) w') := Lib.hid fun q => by
                  have hll : it.L.length = it.m := HT.out.sl.len
                  have := bytes_box w (W2.drewN q) R X it _ it.m (HBS.out.2.2.2 q).1 hcl9 hX (HBS.out.2.2.2 q).2
                  rw [← hll, read3 it rest HRR.out (by omega)] at this
                  rw [← hll]
                  exact this
                have hcq : ∀ q, (convert 27 9 (.slice it.p it.m it.c)).run Try.prog (W2.drewN q) = .ok (.string (strOf it.L)) (W2.drewN q) := fun q => conv_sl (HSL.out.later (HBS.out.2.2.2 q).1.below)
                have hcd : (convert 27 9 (.slice it.p it.m it.c)).run Try.prog W2.drew = .ok (.string (strOf it.L)) W2.drew := hcq 1
                clear c0 c1 c2 c3 hcl9
                go_region_held (fun w' => w'.cell? ⟨X, 3, none⟩ = some (.slice it.p it.m it.c) ∧ (convert 27 9 (.slice it.p it.m it.c)).run Try.prog w' = .ok (.string (strOf it.L)) w') (first | exact ⟨e3, hcd⟩ | exact ⟨e3, hcq 0⟩ | exact ⟨f3, g2⟩) ((go_at_call 24; refine (HC.out _).mono ?_; rintro e w5 ⟨Q, N, D, rfl, hsq, hbs⟩; have f1 := hbs.2.1.c1; have f2 := hbs.2.1.c2; have f3 := hbs.2.1.c3; have g1 := conv_sl hsq; have g2 := conv_sl (HSL.out.later hbs.2.2.1); clear hsq))
                have HR5 := Lib.hid hbs.1
                clear hbs f1 f2 f3
                go_wp2_with fail
                go_roundw
                case rel =>
                  refine ⟨t + 1, by omega, by go_num, ?_, ?_⟩
                  · rw [hq2, HRE.out]
                    exact HR5.out
                  · rw [hq2, HRE.out]
                    rw [List.length_append] at hcl
                    omega
                case measure => simp [intOf]; omega
              | 4, _ =>
                go_wp2_with fail
                go_roundw
                case rel =>
                  refine ⟨t + 1, by omega, by go_num, ?_, ?_⟩
                  · rw [hq2, HRE.out]
                    have := HBS.out.1
                    rw [read4 it rest HRR.out] at this
                    exact this
                  · rw [hq2, HRE.out]
                    rw [List.length_append] at hcl
                    omega
                case measure => simp [intOf]; omega
            · obtain rfl : t = j := by omega
              go_wp2_with fail
              rw [Nat.sub_self, cat] at HR
              refine (endr_ok w _ R _ HR.out (by simp)).mono ?_
              rintro e w5 ⟨rfl, rfl⟩
              rw [show endR ((0, []) : St) = 0 from rfl]
              have HB5 := Lib.hid HR.out.below
              go_wp2_with fail
              refine (works_any _).mono ?_
              rintro e w6 ⟨rfl, hC⟩
              have HC := Lib.hid (HB5.out.trans (hC.mono HB5.out.size))
              clear hC
              go_wp2_with fail
              go_ret
              exact ⟨rfl, HC.out⟩
        · rw [if_neg hS] at hd
          subst hd
          have hS1 : (S.1 != 0) = true := by simpa using hS
          clear HK2 HV hS
          generalize S.1 = y at *
          go_wp2_with fail
          refine (works_any _).mono ?_
          rintro e w4 ⟨rfl, hC⟩
          have HC := Lib.hid (HB3.out.trans (hC.mono HB3.out.size))
          clear hC
          go_wp2_with fail
          go_ret
          exact ⟨rfl, HC.out⟩

set_option maxRecDepth 100000 in
theorem lifted (os : Os) (started : os.Started) (H : Type) (enc : TypeId × Value → H) :
    ReturnsInHanded {} Try.checked os 5 .any (Rows.wireBackSpec.pre6 enc Try.prog Try.f5 Rows.wireBackRow.domain false) (Rows.wireBackSpec.post enc Try.prog Try.f5 false true false false) := by
  refine returnsInHanded_of_change (C := Try.checked) own started (by kernel_rfl) Try.func5
    (ChangeSpec.witness6 (enc := enc) (C := Try.checked) false ⟨#[], #[.slice none 0 0], []⟩ 8 (by kernel_rfl) (by kernel_rfl) (by kernel_rfl) (by kernel_rfl)) ?_
  intro W base args ds gs before hval0 hW hcnd _
  have hval : ∀ (j : Nat) t v, Try.f5.params[j]? = some t → args[j]? = some v → Value.okWide Try.prog W .any base t v := hval0
  have hW' := hW
  obtain ⟨p, q, hA0, hV, rfl, hfz, hnd⟩ := hW
  have hA : DataW.TrodAll enc Try.prog W 0 (fun _ => true) true Try.f5.params.toList args.toList ds p := hA0
  rw [Try.params5] at hA hval
  obtain ⟨v0, vs0, d0, ds0, p0, q0, hargs, rfl, rfl, h0, r0⟩ := trodAll_cons hA
  obtain ⟨rfl, rfl, rfl⟩ := trodAll_nil r0
  obtain rfl : args = #[v0] := by cases args; simp_all
  obtain ⟨rfl, rfl⟩ := trodVars_none hV
  obtain ⟨a0, len0, cap0, rfl⟩ := okWide_slice Try.underlying22 (hval 0 22 v0 rfl rfl)
  have k0 := h0
  have lt0 : ∀ x ∈ p0, x.block < W.heap.size := by obtain ⟨m, hm⟩ := k0; exact DataW.trod_lt m _ _ _ hm
  obtain ⟨its0, w0⟩ : ∃ its, Items W a0 len0 cap0 its := by
    obtain ⟨fuel, hf⟩ := h0
    exact open_items hf
  clear hA0 hval0
  refine (walk a0 len0 cap0 its0 W w0).mono fun e W' ⟨he, bel⟩ => ?_
  subst he
  exact ⟨_, rfl, _, _, _, [], _, [], hW', trodAll_mk1 (shut_bool Try.underlying4 _), (trodAll_cons_mk (Below.trod laidOut (by kernel_rfl) (of_decide_eq_true (by kernel_rfl)) k0 bel lt0) trodAll_mk0), rfl, bel.frame _, fun h => by cases h⟩

theorem over : Rows.wireBackRow.holds Try.pinned (OpenSpec.ofChange Rows.wireBackSpec) :=
  OpenClaim.holds_of_wide 5 Try.f5 rfl rfl rfl rfl rfl rfl rfl ⟨rfl, rfl, rfl, rfl, rfl⟩ rfl rfl rfl rfl rfl (by kernel_rfl) Try.func5 (by kernel_rfl)
    (of_decide_eq_true (by kernel_rfl)) (by unfold Func.isWrapper; first | (rw [if_pos (by decide +kernel)]; kernel_rfl) | (rw [if_neg (by decide +kernel)]; exact ⟨rfl, rfl⟩))
    (fun os started H enc _ => lifted os started H enc)

theorem proved : Rows.WireBackSaid := over
#print axioms proved
end Go.Proofs.Ythckdcejijfgmaa.wireBack
