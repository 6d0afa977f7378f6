/-
  WireOnce answers true of any two rows of bytes, and writes nothing that was there. No condition.
-/
import Derived.Test.YthckdcejijfgmaaRows
import Derived.Test.YthckdcejijfgmaaWirePair
import Derived.Outline
import Derived.Deep.QuietTactic
import Derived.BigQuiet
import Derived.WalkKit
import Derived.ProofKit
import Derived.OpenShut
import Derived.ShutString
import Derived.ChangeOld
import Derived.Below
namespace Go.Proofs.Ythckdcejijfgmaa.wireOnce
open Go.ChangeShapes Go.WideShapes Go.ChangeAt Go.RowKit
open Go.ChangeMaps (open_string shut_string)
set_option linter.unusedVariables false

theorem own : ownKnob Try.prog.godebug = none := by kernel_rfl
theorem laidOut : laidOutB Try.prog = true := by kernel_rfl

/-- WHAT THE WALK IS TOLD OF A SLICE OF INTEGERS THAT CAME IN: it is nil; or it leads to a row of 'cap' cells, the numbers 'zs' (the first 'len' are its elements, the rest its spare room), each fitting its kind. -/
def IsRow (k : IntKind) (w : World) (a : Option Addr) (len cap : Nat) (zs : List Int) : Prop :=
  (a = none ∧ len = 0 ∧ cap = 0 ∧ zs = []) ∨
  ∃ x, a = some x ∧ len ≤ cap ∧ cap ≤ maxLen ∧ zs.length = cap ∧ (∀ i, i < zs.length → w.cell? (x.add i) = some (.int k (zs.getD i 0))) ∧ ∀ n ∈ zs, (Lit.int k n).wf = true

theorem row_sl {w : World} {a : Option Addr} {len cap : Nat} {zs : List Int} (h : IsRow .u8 w a len cap zs) (k : Nat) (hk : k ≤ len) : k ≤ cap ∧ ∃ L, Sl w a k cap L := by
  rcases h with ⟨rfl, rfl, rfl, rfl⟩ | ⟨x, rfl, hl, hm, hz, hc, hwf⟩
  · obtain rfl : k = 0 := by omega
    exact ⟨Nat.le_refl _, _, Sl.none⟩
  · exact ⟨by omega, _, sl_first k cap (by omega) (by omega) hc hwf⟩

set_option maxHeartbeats 400000 in
theorem walk (a0 : Option Addr) (len0 cap0 : Nat) (z0 : List Int) (a1 : Option Addr) (len1 cap1 : Nat) (z1 : List Int) (w : World) (w0 : IsRow .u8 w a0 len0 cap0 z0) (w1 : IsRow .u8 w a1 len1 cap1 z1) :
    Calls Try.prog 6 #[.slice a0 len0 cap0, .slice a1 len1 cap1] w fun e w' => e = .returned (.bool true) ∧ Below w.heap.size w w' := by
  obtain ⟨k0, hk0, hl0, hb0⟩ : ∃ k : Nat, min (len0 : Int) 400 = (k : Int) ∧ k ≤ len0 ∧ k ≤ 400 := least len0 400
  obtain ⟨k1, hk1, hl1, hb1⟩ : ∃ k : Nat, min (len1 : Int) 60 = (k : Int) ∧ k ≤ len1 ∧ k ≤ 60 := least len1 60
  obtain ⟨hc0, L, HS⟩ := row_sl w0 k0 hl0
  obtain ⟨hc1, Z, HZ⟩ := row_sl w1 k1 hl1
  have hLl := HS.len
  have HI := Lib.hid (inv_start L (by omega) HS.lt)
  replace HS := Lib.hid HS
  replace HZ := Lib.hid HZ
  clear w0 w1
  have HLl := Lib.hid hLl
  clear hLl
  go_enter Try.func6, Try.ntmps6
  go_wp2_with fail
  go_quiet (fail)
  have HB : Hid (∀ q, Below w.heap.size w (w.drewN q)) := Lib.hid fun q => below_drewN (Below.refl _ _) q
  have HS1 : Hid (∀ q, Sl (w.drewN q) a0 k0 cap0 L) := Lib.hid fun q => HS.out.later (HB.out q)
  go_wp2_with fail
  refine (read_any _ _ _ _ _ (HS1.out _) (by omega)).mono ?_
  rintro e wA ⟨B, p, c, rfl, h1, h2, h3, h4⟩
  have HN := Lib.hid (rw_new w _ wA 1000 B p c L (HB.out _) h1 h2 h3 h4)
  clear h1 h2 h3 h4
  go_wp2_with fail
  refine HN.out.mono ?_
  rintro e wB ⟨Bw, rfl, hrw, _⟩
  have HR : Hid (RwOk w wB B Bw 1000 (0, L) (0, [])) := Lib.hid hrw
  clear hrw HN
  go_wp2_with fail
  go_loopw [7] (fun i wr => ∃ (j : Nat) (R S : St), j ≤ k1 ∧ i = .int .i64 j ∧ RwOk w wr B Bw 1000 R S ∧ Inv L R S) (fun i _ => k1 - (intOf i).toNat)
  case atStart => exact ⟨0, _, _, Nat.zero_le _, rfl, HR.out, HI.out⟩
  case round =>
    obtain ⟨j, R, S, hj, rfl, hrw, hinv⟩ := hrel
    have HR2 := Lib.hid hrw
    have HI2 := Lib.hid hinv
    have hrl : R.2.length ≤ 400 := hinv.2.2.1
    have hsl : S.2.length ≤ 1000 := hinv.2.1
    clear hrw hinv HR HI
    by_cases hlt : j < k1
    · obtain ⟨b, off, rfl, hc⟩ := (HZ.out.later HR2.out.below).cell (by omega)
      have hcj := hc j hlt
      have hcl : Z.getD j 0 < 256 := getD_lt HZ.out.lt j
      clear hc
      generalize Z.getD j 0 = z at *
      obtain ⟨n, hn, hn10⟩ : ∃ n : Nat, (z : Int) % 10 = (n : Int) ∧ n < 10 := ⟨z % 10, by omega, by omega⟩
      by_cases h0 : n = 0
      · subst h0
        go_wp2_with fail
        refine (rw_bool w _ B Bw 1000 R S HR2.out (by omega)).mono ?_
        rintro e w3 ⟨rfl, hrw⟩
        have HR3 := Lib.hid hrw
        clear hrw HR2 hn hcj
        go_wp2_with fail
        refine (HR3.out.write (T := rawW 1000 S [bit (boolR R).2]) fun v hv => bool_wr Bw v 1000 S _ _ hv (by omega) (by omega) (by omega)).mono ?_
        rintro e w4 ⟨rfl, hrw⟩
        have HR4 := Lib.hid hrw
        clear hrw HR3
        go_wp2_with fail
        go_roundw
        case rel => exact ⟨j + 1, _, _, by omega, by go_num, HR4.out, inv_bool L R S HI2.out⟩
        case measure => simp [intOf]; omega
      · by_cases h9 : n = 9
        · subst h9
          go_wp2_with fail
          refine (rw_bytes w _ B Bw 1000 400 R S HR2.out (by omega)).mono ?_
          rintro e w3 ⟨q, m, d, rfl, hs, hrw⟩
          have HR3 := Lib.hid hrw
          have HQ := Lib.hid hs
          have hm := hs.len
          have hml := bytesR_len R 400
          have hm4 : m ≤ 400 := by omega
          clear hrw HR2 hn hcj hs hm hml
          go_wp2_with fail
          refine (HR3.out.write (T := bytesW 1000 S (bytesR R 400).2) fun v hv => bytes_wr Bw v 1000 S _ _ _ _ _ hv HQ.out (by omega) (by omega) (by omega) (by omega)).mono ?_
          rintro e w4 ⟨rfl, hrw⟩
          have HR4 := Lib.hid hrw
          clear hrw HR3 HQ
          go_wp2_with fail
          go_roundw
          case rel => exact ⟨j + 1, _, _, by omega, by go_num, HR4.out, inv_bytes L R S 400 HI2.out⟩
          case measure => simp [intOf]; omega
        · go_wp2_with fail
          refine (rw_num w _ B Bw 1000 n R S HR2.out (by omega)).mono ?_
          rintro e w3 ⟨rfl, hrw⟩
          have HR3 := Lib.hid hrw
          clear hrw HR2 hn hcj
          go_wp2_with fail
          refine (HR3.out.write (T := numW 1000 S (numR R n).2 n) fun v hv => num_wr Bw v 1000 S _ _ _ hv (by omega) (by omega) (by omega)).mono ?_
          rintro e w4 ⟨rfl, hrw⟩
          have HR4 := Lib.hid hrw
          clear hrw HR3
          go_wp2_with fail
          go_roundw
          case rel => exact ⟨j + 1, _, _, by omega, by go_num, HR4.out, inv_num L R S n (by omega) (by omega) HI2.out⟩
          case measure => simp [intOf]; omega
    · obtain rfl : j = k1 := by omega
      go_wp2_with fail
      refine (rw_done w _ B Bw 1000 R S HR2.out (by omega)).mono ?_
      rintro e w3 ⟨hrw, q, n, d, x, rfl, hx⟩
      have HR3 := Lib.hid hrw
      have HX := Lib.hid hx
      clear hrw hx HR2
      go_wp2_with fail
      refine (rw_end w _ B Bw 1000 R S HR3.out (by omega)).mono ?_
      rintro e w4 ⟨rfl, rfl⟩
      by_cases hE : endR R = 0
      · have hS := inv_end L R S HI2.out hE
        obtain ⟨hx0, hq⟩ := HX.out (by rw [hS])
        subst hx0
        rw [hS] at hq
        have hcq := conv_sl hq
        have hcb := conv_sl (HS.out.later HR3.out.below)
        have hw3 := HR3.out.below
        have HW3 := Lib.hid hw3
        rw [hE]
        clear hE hS HX HR3 hq hw3
        go_wp2_with fail
        refine (works_any _).mono ?_
        rintro e w5 ⟨rfl, hw⟩
        have HW := Lib.hid (HW3.out.trans (hw.mono HW3.out.size))
        clear hw hcq hcb
        go_wp2_with fail
        go_ret
        exact ⟨rfl, HW.out⟩
      · have hE1 : (endR R != 0) = true := by simpa using hE
        have hw3 := HR3.out.below
        have HW3 := Lib.hid hw3
        clear hE HX HR3 hw3
        generalize endR R = y at *
        go_wp2_with fail
        refine (works_any _).mono ?_
        rintro e w5 ⟨rfl, hw⟩
        have HW := Lib.hid (HW3.out.trans (hw.mono HW3.out.size))
        clear hw
        go_wp2_with fail
        go_ret
        exact ⟨rfl, HW.out⟩

set_option maxRecDepth 100000 in
theorem lifted (os : Os) (started : os.Started) (H : Type) (enc : TypeId × Value → H) :
    ReturnsInHanded {} Try.checked os 6 .any (Rows.wireOnceSpec.pre6 enc Try.prog Try.f6 Rows.wireOnceRow.domain false) (Rows.wireOnceSpec.post enc Try.prog Try.f6 false true false false) := by
  refine returnsInHanded_of_change (C := Try.checked) own started (by kernel_rfl) Try.func6
    (ChangeSpec.witness6 (enc := enc) (C := Try.checked) false ⟨#[], #[.slice none 0 0, .slice none 0 0], []⟩ 8 (by kernel_rfl) (by kernel_rfl) (by kernel_rfl) (by kernel_rfl)) ?_
  intro W base args ds gs before hval0 hW hcnd _
  have hval : ∀ (j : Nat) t v, Try.f6.params[j]? = some t → args[j]? = some v → Value.okWide Try.prog W .any base t v := hval0
  have hW' := hW
  obtain ⟨p, q, hA0, hV, rfl, hfz, hnd⟩ := hW
  have hA : DataW.TrodAll enc Try.prog W 0 (fun _ => true) true Try.f6.params.toList args.toList ds p := hA0
  rw [Try.params6] at hA hval
  obtain ⟨v0, vs0, d0, ds0, p0, q0, hargs, rfl, rfl, h0, r0⟩ := trodAll_cons hA
  obtain ⟨v1, vs1, d1, ds1, p1, q1, rfl, rfl, rfl, h1, r1⟩ := trodAll_cons r0
  obtain ⟨rfl, rfl, rfl⟩ := trodAll_nil r1
  obtain rfl : args = #[v0, v1] := by cases args; simp_all
  obtain ⟨rfl, rfl⟩ := trodVars_none hV
  obtain ⟨a0, len0, cap0, rfl⟩ := okWide_slice Try.underlying27 (hval 0 27 v0 rfl rfl)
  have k0 := h0
  have lt0 : ∀ x ∈ p0, x.block < W.heap.size := by obtain ⟨m, hm⟩ := k0; exact DataW.trod_lt m _ _ _ hm
  obtain ⟨z0, w0⟩ : ∃ zs, IsRow .u8 W a0 len0 cap0 zs := by
    obtain ⟨fuel, hf⟩ := h0
    rcases open_ints Try.underlying27 Try.underlying5 (by kernel_rfl) hf with ⟨hcs, _⟩ | ⟨x, l, c, zs, hcs, _, hl, hm, hz, _, hcell, hwz⟩
    · simp [Value.cells] at hcs
      obtain ⟨rfl, rfl, rfl⟩ := hcs
      exact ⟨[], .inl ⟨rfl, rfl, rfl, rfl⟩⟩
    · simp [Value.cells] at hcs
      obtain ⟨rfl, rfl, rfl⟩ := hcs
      exact ⟨zs, .inr ⟨_, rfl, hl, hm, by simpa using hz, hcell, hwz⟩⟩
  obtain ⟨a1, len1, cap1, rfl⟩ := okWide_slice Try.underlying27 (hval 1 27 v1 rfl rfl)
  have k1 := h1
  have lt1 : ∀ x ∈ p1, x.block < W.heap.size := by obtain ⟨m, hm⟩ := k1; exact DataW.trod_lt m _ _ _ hm
  obtain ⟨z1, w1⟩ : ∃ zs, IsRow .u8 W a1 len1 cap1 zs := by
    obtain ⟨fuel, hf⟩ := h1
    rcases open_ints Try.underlying27 Try.underlying5 (by kernel_rfl) hf with ⟨hcs, _⟩ | ⟨x, l, c, zs, hcs, _, hl, hm, hz, _, hcell, hwz⟩
    · simp [Value.cells] at hcs
      obtain ⟨rfl, rfl, rfl⟩ := hcs
      exact ⟨[], .inl ⟨rfl, rfl, rfl, rfl⟩⟩
    · simp [Value.cells] at hcs
      obtain ⟨rfl, rfl, rfl⟩ := hcs
      exact ⟨zs, .inr ⟨_, rfl, hl, hm, by simpa using hz, hcell, hwz⟩⟩
  clear hA0 hval0
  refine (walk a0 len0 cap0 z0 a1 len1 cap1 z1 W w0 w1).mono fun e W' ⟨he, bel⟩ => ?_
  subst he
  exact ⟨_, rfl, _, _, _, [], _, [], hW', trodAll_mk1 (shut_bool Try.underlying4 _), (trodAll_cons_mk (Below.trod laidOut (by kernel_rfl) (of_decide_eq_true (by kernel_rfl)) k0 bel lt0) (trodAll_cons_mk (Below.trod laidOut (by kernel_rfl) (of_decide_eq_true (by kernel_rfl)) k1 bel lt1) trodAll_mk0)), rfl, bel.frame _, fun h => by cases h⟩

theorem over : Rows.wireOnceRow.holds Try.pinned (OpenSpec.ofChange Rows.wireOnceSpec) :=
  OpenClaim.holds_of_wide 6 Try.f6 rfl rfl rfl rfl rfl rfl rfl ⟨rfl, rfl, rfl, rfl, rfl⟩ rfl rfl rfl rfl rfl (by kernel_rfl) Try.func6 (by kernel_rfl)
    (of_decide_eq_true (by kernel_rfl)) (by unfold Func.isWrapper; first | (rw [if_pos (by decide +kernel)]; kernel_rfl) | (rw [if_neg (by decide +kernel)]; exact ⟨rfl, rfl⟩))
    (fun os started H enc _ => lifted os started H enc)

theorem proved : Rows.WireOnceSaid := over
#print axioms proved
end Go.Proofs.Ythckdcejijfgmaa.wireOnce
