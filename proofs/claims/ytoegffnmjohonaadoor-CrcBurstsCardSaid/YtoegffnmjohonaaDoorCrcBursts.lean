/-
  CrcBursts answers true of any bytes, any place and any bits, and writes nothing that was there: the tied card. No condition but the card's own: the table of half a byte's moves lies as the program's text lays it.
-/
import Derived.Test.YtoegffnmjohonaaDoorRows
import Derived.Test.YtoegffnmjohonaaDoorCrcOwn
import Derived.LoopTactic
import Derived.Deep.AppendLies
import Derived.Laws.OwnMore
import Derived.Test.YtoegffnmjohonaaDoorCards
import Derived.Test.YtoegffnmjohonaaDoorTie
import Derived.SevenTiedAt
import Derived.Stop.Joined
import Derived.WalkKit
import Derived.ProofKit
import Derived.OpenShut
import Derived.ShutString
import Derived.ChangeOld
import Derived.Below
namespace Go.Proofs.YtoegffnmjohonaaDoor.crcBursts
open Go.ChangeShapes Go.WideShapes Go.ChangeAt Go.RowKit
open Go.ChangeMaps (open_string shut_string)
set_option linter.unusedVariables false

theorem own : ownKnob Tryd.prog.godebug = none := by kernel_rfl
theorem laidOut : laidOutB Tryd.prog = true := by kernel_rfl

/-- WHAT THE WALK IS TOLD OF A SLICE OF INTEGERS THAT CAME IN: it is nil; or it leads to a row of 'cap' cells, the numbers 'zs' (the first 'len' are its elements, the rest its spare room), each fitting its kind. -/
def IsRow (k : IntKind) (w : World) (a : Option Addr) (len cap : Nat) (zs : List Int) : Prop :=
  (a = none ∧ len = 0 ∧ cap = 0 ∧ zs = []) ∨
  ∃ x, a = some x ∧ len ≤ cap ∧ cap ≤ maxLen ∧ zs.length = cap ∧ (∀ i, i < zs.length → w.cell? (x.add i) = some (.int k (zs.getD i 0))) ∧ ∀ n ∈ zs, (Lit.int k n).wf = true

theorem row_bytes {w : World} {a : Option Addr} {len cap : Nat} {zs : List Int} (h : IsRow .u8 w a len cap zs) (k : Nat) (hk : k ≤ len) : k ≤ cap ∧ (a = none → k = 0 ∧ cap = 0) ∧ ∃ f, Bytes w a k f := by
  rcases h with ⟨rfl, rfl, rfl, rfl⟩ | ⟨x, rfl, hl, hm, hz, hc, hwf⟩
  · obtain rfl : k = 0 := by omega
    exact ⟨Nat.le_refl _, fun _ => ⟨rfl, rfl⟩, _, bytes_none fun _ => 0⟩
  · exact ⟨by omega, (fun h => by cases h), _, bytes_take k (by omega) hc hwf⟩

set_option maxHeartbeats 400000 in
theorem walk (a0 : Option Addr) (len0 cap0 : Nat) (z0 : List Int) (a1 : Int) (a2 : Int) (w : World) (hT : Tab w) (w0 : IsRow .u8 w a0 len0 cap0 z0) (w1 : (Lit.int .u16 a1).wf = true) (w2 : (Lit.int .u32 a2).wf = true) :
    Calls Tryd.prog 6 #[.slice a0 len0 cap0, .int .u16 a1, .int .u32 a2] w fun e w' => e = .returned (.bool true) ∧ Below w.heap.size w w' := by
  have HT := Lib.hid hT
  clear hT
  obtain ⟨n, hk, hl, hb⟩ : ∃ k : Nat, (if (1000 : Int) < (len0 : Int) then (1000 : Int) else (len0 : Int)) = (k : Int) ∧ k ≤ len0 ∧ k ≤ 1000 := least len0 1000
  obtain ⟨hc0, hn0, f, HF⟩ := row_bytes w0 n hl
  replace HF := Lib.hid HF
  replace hn0 := Lib.hid hn0
  have hb1 := bounds_u16 w1
  have hb2 := bounds_u32 w2
  obtain ⟨A, rfl⟩ : ∃ A : Nat, a2 = (A : Int) := ⟨a2.toNat, by omega⟩
  clear w0 w1 w2
  have HO := Lib.hid (own_empty w 5 f)
  have HB := Lib.hid ((Below.refl w.heap.size w).alloc (Nat.le_refl _) (.cells #[] 5))
  have HF2 := Lib.hid (HF.out.later HB.out)
  go_enter Tryd.func6, Tryd.ntmps6
  go_wp2_with (at_builtin; refine wpList_append_bytes rfl _ _ rfl w.heap.size w HB.out HB.out.size _ _ _ rfl HO.out _ _ _ f rfl HF2.out hn0.out (by omega) ?_)
  intro v1 wd ho1 hbel
  rw [behind_none] at ho1
  obtain ⟨p, c, rfl, hp1, hp2, hp3⟩ := bytes_of_owns ho1 HF.out.1
  clear HO HB HF2
  have HO := Lib.hid ho1
  have HB := Lib.hid hbel
  have HP := Lib.hid hp3
  have HTD := Lib.hid (HT.out.later HB.out HT.out.lt)
  clear ho1 hbel hp3
  have HW : Hid (∀ wr, Tab wr → Below w.heap.size w wr → Calls Tryd.prog 10 #[] wr fun e w' => e = .returned (.bool true) ∧ Below w.heap.size w w') :=
    Lib.hid fun wr h1 h2 => (works_any wr h1).mono fun e w' h => ⟨h.1, h2.trans (h.2.mono h2.size)⟩
  by_cases hn : n = 0
  · have hnb : ((n : Int) == 0) = true := by simp [hn]
    go_wp2_with fail
    refine (HW.out _ HTD.out HB.out).mono ?_
    rintro e wC ⟨rfl, hC⟩
    go_wp2_with fail
    go_ret
    exact ⟨rfl, hC⟩
  have hnb : ((n : Int) == 0) = false := by simpa using hn
  by_cases hA : A = 0
  · have hab : ((A : Int) == 0) = true := by simp [hA]
    go_wp2_with fail
    refine (HW.out _ HTD.out HB.out).mono ?_
    rintro e wC ⟨rfl, hC⟩
    go_wp2_with fail
    go_ret
    exact ⟨rfl, hC⟩
  have hab : ((A : Int) == 0) = false := by simpa using hA
  obtain ⟨g, cp, hu, hg0, hg1⟩ := HO.out.form (by omega)
  simp only [Value.slice.injEq] at hu
  obtain ⟨rfl, _, rfl⟩ := hu
  obtain ⟨q, HQ, hq⟩ : ∃ q : Nat, a1 % (8 * (n : Int)) = (q : Int) ∧ q < 8 * n := by
    have h0 := Int.emod_nonneg a1 (show (8 * (n : Int)) ≠ 0 by omega)
    have h1 := Int.emod_lt_of_pos a1 (show (0 : Int) < 8 * (n : Int) by omega)
    exact ⟨(a1 % (8 * (n : Int))).toNat, by omega, by omega⟩
  replace HQ := Lib.hid HQ
  go_wp2_with fail
  refine (sum_any _ _ _ _ _ HP.out (by omega) HTD.out).mono ?_
  rintro e w' ⟨rfl, rfl⟩
  go_wp2_with fail
  go_loopw [8, 9] (fun vt vi wr => ∃ i t P : Nat, ∃ h : Nat → Nat, i ≤ 32 ∧ t ≤ i ∧ vt = .int .i64 t ∧ vi = .int .i64 i ∧ Hid (wr.ownsRow w.heap.size 5 1 (.slice (some ⟨g, 0, none⟩) n c) n (vals h n)) ∧ Hid (Below w.heap.size w wr) ∧
    Hid ((∀ j, j < n → h j < 256) ∧ numF h n = numF f n ^^^ P * 2 ^ q ∧ P < 2 ^ i ∧ (t = 0 ↔ P = 0))) (fun _ vi _ => 32 - (intOf vi).toNat)
  case atStart => exact ⟨0, 0, 0, f, by omega, by omega, rfl, rfl, HO, HB, Lib.hid ⟨HF.out.1, by simp, by simp, by simp⟩⟩
  case round =>
    obtain ⟨i, t, P, h, hi, ht, rfl, rfl, HO2, HB2, HH⟩ := hrel
    by_cases hlt : i < 32
    · have hQ := HQ.out
      obtain ⟨kk, hkk⟩ : ∃ kk, kk = q + i := ⟨_, rfl⟩
      have hki : (q : Int) + (i : Int) = (kk : Int) := by omega
      have hkl : kk < 8 * n + 32 := by omega
      replace hkk := Lib.hid hkk
      have hand := u32_and_nat (A / 2 ^ i) 1 (Nat.lt_of_le_of_lt (Nat.div_le_self _ _) (by omega)) (by omega)
      rw [Nat.and_one_is_mod] at hand
      have hcast : ((A / 2 ^ i : Nat) : Int) = (A : Int) / 2 ^ i := by simp
      rw [hcast] at hand
      clear hcast
      by_cases hbit : A / 2 ^ i % 2 = 1
      · rw [hbit] at hand
        replace hand : bits .and .u32 ((A : Int) / 2 ^ i) 1 = 1 := hand
        by_cases hin : kk < 8 * n
        · have hin2 : (kk : Int) < 8 * (n : Int) := by omega
          obtain ⟨d, hd⟩ : ∃ d, d = kk / 8 := ⟨_, rfl⟩
          obtain ⟨s, hs⟩ : ∃ s, s = kk % 8 := ⟨_, rfl⟩
          have hd1 : (kk : Int) / 8 = (d : Int) := by omega
          have hs1 : (kk : Int) % 8 = (s : Int) := by omega
          have hdn : (d : Int) < (n : Int) := by omega
          have hdm : d < n := by omega
          have hs8 : s < 8 := by omega
          replace hd := Lib.hid hd
          replace hs := Lib.hid hs
          have hcell : wr.cell? ⟨g, d, none⟩ = some (.int .u8 ((h d : Nat) : Int)) := by
            rw [HO2.out.cellAt d (by omega)]; exact vals_at h n d hdm
          have hfr := HO2.out.frozenAt d
          have hxor := xor_bit (h d) s (HH.out.1 d hdm) hs8
          rw [← turned_at] at hxor
          obtain ⟨HN, HG⟩ := HO2.out.stored d (.int .u8 ((turned h d s d : Nat) : Int))
          rw [vals_set h (turned h d s) n d fun j e => turned_other h d s j e] at HN
          replace HN := Lib.hid HN
          have HB3 := Lib.hid (HB2.out.setCell (p := ⟨g, d, none⟩) hg0 (.int .u8 ((turned h d s d : Nat) : Int)))
          clear HG
          have HM := Lib.hid (burst_more f h n q i P d s t HH.out hdm hs8 (by have := hkk.out; have := hd.out; have := hs.out; omega))
          go_wp2_with fail
          go_roundw
          case rel => exact ⟨i + 1, t + 1, P ^^^ 2 ^ i, turned h d s, by omega, by omega, by go_num, by go_num, HN, HB3, HM⟩
          case measure => simp [intOf]; omega
        · have hin2 : ¬ (kk : Int) < 8 * (n : Int) := by omega
          go_wp2_with fail
          go_roundw
          case rel => exact ⟨i + 1, t, P, h, by omega, by omega, rfl, by go_num, HO2, HB2, Lib.hid ⟨HH.out.1, HH.out.2.1, Nat.lt_of_lt_of_le HH.out.2.2.1 (Nat.pow_le_pow_right (by omega) (by omega)), HH.out.2.2.2⟩⟩
          case measure => simp [intOf]; omega
      · rw [show A / 2 ^ i % 2 = 0 by omega] at hand
        replace hand : bits .and .u32 ((A : Int) / 2 ^ i) 1 = 0 := hand
        go_wp2_with fail
        go_roundw
        case rel => exact ⟨i + 1, t, P, h, by omega, by omega, rfl, by go_num, HO2, HB2, Lib.hid ⟨HH.out.1, HH.out.2.1, Nat.lt_of_lt_of_le HH.out.2.2.1 (Nat.pow_le_pow_right (by omega) (by omega)), HH.out.2.2.2⟩⟩
        case measure => simp [intOf]; omega
    · obtain rfl : i = 32 := by omega
      obtain ⟨p2, c2, hv, _, _, hp3⟩ := bytes_of_owns HO2.out HH.out.1
      simp only [Value.slice.injEq, true_and] at hv
      obtain ⟨rfl, rfl⟩ := hv
      have HP2 := Lib.hid hp3
      have HTR := Lib.hid (HT.out.later HB2.out HT.out.lt)
      have hiff := sumF_burst f h n q P t HF.out.1 (by omega) HH.out
      clear hp3 HO2
      by_cases ht0 : t = 0
      · have e1 : (((sumF h n : Nat) : Int) == ((sumF f n : Nat) : Int)) = true := by simp [hiff.2 ht0]
        have e2 : ((t : Int) == 0) = true := by simp [ht0]
        clear hiff ht0
        go_wp2_with fail
        refine (sum_any _ _ _ _ _ HP2.out (by omega) HTR.out).mono ?_
        rintro e w' ⟨rfl, rfl⟩
        go_wp2_with fail
        refine (HW.out _ HTR.out HB2.out).mono ?_
        rintro e wC ⟨rfl, hC⟩
        go_wp2_with fail
        go_ret
        exact ⟨rfl, hC⟩
      · have e1 : (((sumF h n : Nat) : Int) == ((sumF f n : Nat) : Int)) = false := by simpa using fun e => ht0 (hiff.1 (by omega))
        have e2 : ((t : Int) == 0) = false := by simpa using ht0
        clear hiff ht0
        go_wp2_with fail
        refine (sum_any _ _ _ _ _ HP2.out (by omega) HTR.out).mono ?_
        rintro e w' ⟨rfl, rfl⟩
        go_wp2_with fail
        refine (HW.out _ HTR.out HB2.out).mono ?_
        rintro e wC ⟨rfl, hC⟩
        go_wp2_with fail
        go_ret
        exact ⟨rfl, hC⟩

set_option maxRecDepth 100000 in
theorem lifted (os : Os) (started : os.Started) (H : Type) (enc : TypeId × Value → H) :
    ReturnsInHanded {} Tryd.checked os 6 .any (fun w args => (Rows.crcBurstsSpec.pre enc Tryd.prog Tryd.f6 [] false w args ∧ laidMetH Tryd.prog Rows.crcBurstsRow.laid w) ∧ sizedMet enc Tryd.prog Tryd.f6 (OpenSpec.ofChange Rows.crcBurstsSpec) false w args) (Rows.crcBurstsSpec.post enc Tryd.prog Tryd.f6 false true false false) := by
  refine returnsInHanded_of_change_and (C := Tryd.checked) (X := fun w _ => laidMetH Tryd.prog Rows.crcBurstsRow.laid w) (fun _ _ _ hh h => h.of_heap hh) own started (by kernel_rfl) Tryd.func6
    (ChangeSpec.witness_shaped (enc := enc) (C := Tryd.checked) (os := os) (X := fun w _ => laidMetH Tryd.prog Rows.crcBurstsRow.laid w) false (World.doorLaid Tryd.prog 400 os) #[.slice none 0 0, .int .u16 0, .int .u32 0] 8 rfl (World.shaped_of_RefB (by kernel_rfl) (by kernel_rfl)) (by kernel_rfl) (by kernel_rfl) (by kernel_rfl) (door_met os _)) ?_
  intro W base args ds gs before hval0 hW _ _ hL _
  have hval : ∀ (j : Nat) t v, Tryd.f6.params[j]? = some t → args[j]? = some v → Value.okWide Tryd.prog W .any base t v := hval0
  have hW' := hW
  obtain ⟨p, q, hA0, hV, rfl, hfz, hnd⟩ := hW
  have hA : DataW.TrodAll enc Tryd.prog W 0 (fun _ => true) true Tryd.f6.params.toList args.toList ds p := hA0
  rw [Tryd.params6] at hA hval
  obtain ⟨v0, vs0, d0, ds0, p0, q0, hargs, rfl, rfl, h0, r0⟩ := trodAll_cons hA
  obtain ⟨v1, vs1, d1, ds1, p1, q1, rfl, rfl, rfl, h1, r1⟩ := trodAll_cons r0
  obtain ⟨v2, vs2, d2, ds2, p2, q2, rfl, rfl, rfl, h2, r2⟩ := trodAll_cons r1
  obtain ⟨rfl, rfl, rfl⟩ := trodAll_nil r2
  obtain rfl : args = #[v0, v1, v2] := by cases args; simp_all
  obtain ⟨rfl, rfl⟩ := trodVars_none hV
  obtain ⟨a0, len0, cap0, rfl⟩ := okWide_slice Tryd.underlying22 (hval 0 22 v0 rfl rfl)
  have k0 := h0
  have lt0 : ∀ x ∈ p0, x.block < W.heap.size := by obtain ⟨m, hm⟩ := k0; exact DataW.trod_lt m _ _ _ hm
  obtain ⟨z0, w0⟩ : ∃ zs, IsRow .u8 W a0 len0 cap0 zs := by
    obtain ⟨fuel, hf⟩ := h0
    rcases open_ints Tryd.underlying22 Tryd.underlying5 (by kernel_rfl) hf with ⟨hcs, _⟩ | ⟨x, l, c, zs, hcs, _, hl, hm, hz, _, hcell, hwz⟩
    · simp [Value.cells] at hcs
      obtain ⟨rfl, rfl, rfl⟩ := hcs
      exact ⟨[], .inl ⟨rfl, rfl, rfl, rfl⟩⟩
    · simp [Value.cells] at hcs
      obtain ⟨rfl, rfl, rfl⟩ := hcs
      exact ⟨zs, .inr ⟨_, rfl, hl, hm, by simpa using hz, hcell, hwz⟩⟩
  obtain ⟨a1, rfl, rfl, rfl, w1⟩ := open_int Tryd.underlying30 (hval 1 30 v1 rfl rfl) h1
  obtain ⟨a2, rfl, rfl, rfl, w2⟩ := open_int Tryd.underlying23 (hval 2 23 v2 rfl rfl) h2
  clear hA0 hval0
  refine (walk a0 len0 cap0 z0 a1 a2 W (of_laid hL) w0 w1 w2).mono fun e W' ⟨he, bel⟩ => ?_
  subst he
  exact ⟨_, rfl, _, _, _, [], _, [], hW', trodAll_mk1 (shut_bool Tryd.underlying4 _), (trodAll_cons_mk (Below.trod laidOut (by kernel_rfl) (of_decide_eq_true (by kernel_rfl)) k0 bel lt0) (trodAll_cons_mk (shut_int Tryd.underlying30 w1) (trodAll_cons_mk (shut_int Tryd.underlying23 w2) trodAll_mk0))), rfl, bel.frame _, fun h => by cases h⟩

theorem over : Rows.crcBurstsRow.holds Tryd.pinned (OpenSpec.ofChange Rows.crcBurstsSpec) :=
  OpenClaim.holds_of_wide 6 Tryd.f6 rfl rfl rfl rfl rfl rfl rfl ⟨rfl, rfl, rfl, rfl, rfl⟩ rfl rfl rfl rfl rfl (by kernel_rfl) Tryd.func6 (by kernel_rfl)
    (of_decide_eq_true (by kernel_rfl)) (by unfold Func.isWrapper; first | (rw [if_pos (by decide +kernel)]; kernel_rfl) | (rw [if_neg (by decide +kernel)]; exact ⟨rfl, rfl⟩))
    (fun os started H enc _ => lifted os started H enc)

theorem proved : Rows.CrcBurstsCardSaid :=
  Claim7.holds_tied_plain_at .later [] [.data] true (true, "7b123bce1e568699da8ae04d5be36bac09dff5987060df3eefb0255ff41a661c") false
    over (fun _ h => by cases h) (by kernel_rfl) (fun _ h => by cases h) crcBursts_row_tie rfl ⟨rfl, rfl⟩ (by kernel_rfl) rfl
    (fun f fn hf hfn => by
      obtain rfl : f = 6 := Option.some.inj ((show Tryd.prog.funcNamed "pledge/pledgelaw02.CrcBursts" = some 6 by kernel_rfl).symm.trans hf) |>.symm
      obtain rfl : fn = Tryd.f6 := (Option.some.inj (Tryd.func6.symm.trans hfn)).symm
      exact ⟨by kernel_rfl, fun j t ht => by
        rw [Tryd.params6] at ht
        have hm : t ∈ [22, 30, 23] := by simpa using Array.mem_of_getElem? ht
        have hall : ([22, 30, 23].all fun u => !Tryd.prog.wantsStandIn u) = true := by kernel_rfl
        exact (show Tryd.prog.wantsStandIn t = false by simpa using List.all_eq_true.1 hall t hm)⟩)
    (by kernel_rfl)
#print axioms proved
end Go.Proofs.YtoegffnmjohonaaDoor.crcBursts
