/-
  CrcThree answers true of any three rows of bytes, and writes nothing that was there: the tied card. No condition but the card's own: the table of half a byte's moves lies as the program's text lays it.
-/
import Derived.Test.YtoegffnmjohonaaDoorRows
import Derived.Test.YtoegffnmjohonaaDoorCrcOwn
import Derived.Deep.QuietTactic
import Derived.BigQuiet
import Derived.Deep.RegionLaw
import Derived.RegionTactic
import Derived.LoopTactic
import Derived.StillTailTactics
import Derived.Test.YtoegffnmjohonaaDoorCards
import Derived.Test.YtoegffnmjohonaaDoorTie
import Derived.SevenTiedAt
import Derived.Stop.Joined
import Derived.WalkKit
import Derived.ProofKit
import Derived.OpenShut
import Derived.ShutString
import Derived.ChangeOld
import Derived.Below
namespace Go.Proofs.YtoegffnmjohonaaDoor.crcThree
open Go.ChangeShapes Go.WideShapes Go.ChangeAt Go.RowKit
open Go.ChangeMaps (open_string shut_string)
set_option linter.unusedVariables false

theorem own : ownKnob Tryd.prog.godebug = none := by kernel_rfl
theorem laidOut : laidOutB Tryd.prog = true := by kernel_rfl

/-- WHAT THE WALK IS TOLD OF A SLICE OF INTEGERS THAT CAME IN: it is nil; or it leads to a row of 'cap' cells, the numbers 'zs' (the first 'len' are its elements, the rest its spare room), each fitting its kind. -/
def IsRow (k : IntKind) (w : World) (a : Option Addr) (len cap : Nat) (zs : List Int) : Prop :=
  (a = none ∧ len = 0 ∧ cap = 0 ∧ zs = []) ∨
  ∃ x, a = some x ∧ len ≤ cap ∧ cap ≤ maxLen ∧ zs.length = cap ∧ (∀ i, i < zs.length → w.cell? (x.add i) = some (.int k (zs.getD i 0))) ∧ ∀ n ∈ zs, (Lit.int k n).wf = true

theorem row_bytes {w : World} {a : Option Addr} {len cap : Nat} {zs : List Int} (h : IsRow .u8 w a len cap zs) (k : Nat) (hk : k ≤ len) : k ≤ cap ∧ len ≤ cap ∧ (a = none → k = 0 ∧ cap = 0) ∧ ∃ f, Bytes w a k f := by
  rcases h with ⟨rfl, rfl, rfl, rfl⟩ | ⟨x, rfl, hl, hm, hz, hc, hwf⟩
  · obtain rfl : k = 0 := by omega
    exact ⟨Nat.le_refl _, Nat.le_refl _, fun _ => ⟨rfl, rfl⟩, _, bytes_none fun _ => 0⟩
  · exact ⟨by omega, hl, (fun h => by cases h), _, bytes_take k (by omega) hc hwf⟩
theorem run_min (w : World) (x y z : Nat) (n : Nat) (hn : n = min (min (min x y) z) 500) :
    (Builtin.min_ #[3, 3, 3, 3] 3 #[.int .i64 (x : Int), .int .i64 (y : Int), .int .i64 (z : Int), .int .i64 500]).run Tryd.prog w = .ok (.int .i64 (n : Int)) w := by
  simp [Builtin.min_, Builtin.min2]
  repeat' split
  all_goals omega

set_option maxHeartbeats 400000 in
theorem walk (a0 : Option Addr) (len0 cap0 : Nat) (z0 : List Int) (a1 : Option Addr) (len1 cap1 : Nat) (z1 : List Int) (a2 : Option Addr) (len2 cap2 : Nat) (z2 : List Int) (w : World) (hT : Tab w) (w0 : IsRow .u8 w a0 len0 cap0 z0) (w1 : IsRow .u8 w a1 len1 cap1 z1) (w2 : IsRow .u8 w a2 len2 cap2 z2) :
    Calls Tryd.prog 5 #[.slice a0 len0 cap0, .slice a1 len1 cap1, .slice a2 len2 cap2] w fun e w' => e = .returned (.bool true) ∧ Below w.heap.size w w' := by
  have HT := Lib.hid hT
  clear hT
  obtain ⟨n, hn⟩ : ∃ n, n = min (min (min len0 len1) len2) 500 := ⟨_, rfl⟩
  have hmin := fun w : World => run_min w len0 len1 len2 n hn
  obtain ⟨hc0, hk0, hn0, f0, HF0⟩ := row_bytes w0 n (by omega)
  obtain ⟨hc1, hk1, hn1, f1, HF1⟩ := row_bytes w1 n (by omega)
  obtain ⟨hc2, hk2, hn2, f2, HF2⟩ := row_bytes w2 n (by omega)
  have hnl0 : n ≤ len0 := by omega
  have hnl1 : n ≤ len1 := by omega
  have hnl2 : n ≤ len2 := by omega
  have hn500 : n ≤ 500 := by omega
  obtain ⟨h, hh⟩ : ∃ h : Nat → Nat, ∀ j, h j = f0 j ^^^ f1 j ^^^ f2 j := ⟨_, fun _ => rfl⟩
  have HH := Lib.hid hh
  replace HF0 := Lib.hid HF0
  replace HF1 := Lib.hid HF1
  replace HF2 := Lib.hid HF2
  clear w0 w1 w2 hh hn hn0 hn1 hn2
  go_enter Tryd.func5, Tryd.ntmps5
  go_wp2_with fail
  go_loopw [8, 9] (fun v i wr => ∃ k : Nat, k ≤ n ∧ i = .int .i64 k ∧ Hid (wr.ownsRow w.heap.size 5 1 v k (vals h k)) ∧ Hid (Below w.heap.size w wr)) (fun _ i _ => n - (intOf i).toNat)
  case atStart => exact ⟨0, Nat.zero_le _, rfl, Lib.hid (World.ownsRow_nil _ _ _ _), Lib.hid (Below.refl _ _)⟩
  case round =>
    obtain ⟨k, hk, rfl, HO, HB⟩ := hrel
    by_cases hlt : k < n
    · obtain ⟨b0, o0, rfl, hb0, hd0⟩ := HF0.out.2 (by omega)
      obtain ⟨b1, o1, rfl, hb1, hd1⟩ := HF1.out.2 (by omega)
      obtain ⟨b2, o2, rfl, hb2, hd2⟩ := HF2.out.2 (by omega)
      have hx0 : wr.cell? ⟨b0, o0 + k, none⟩ = some (.int .u8 ((f0 k : Nat) : Int)) := by rw [HB.out.cell (p := ⟨b0, o0 + k, none⟩) hb0]; exact hd0 k hlt
      have hx1 : wr.cell? ⟨b1, o1 + k, none⟩ = some (.int .u8 ((f1 k : Nat) : Int)) := by rw [HB.out.cell (p := ⟨b1, o1 + k, none⟩) hb1]; exact hd1 k hlt
      have hx2 : wr.cell? ⟨b2, o2 + k, none⟩ = some (.int .u8 ((f2 k : Nat) : Int)) := by rw [HB.out.cell (p := ⟨b2, o2 + k, none⟩) hb2]; exact hd2 k hlt
      have hv0 := HF0.out.1 k hlt
      have hv1 := HF1.out.1 k hlt
      have hv2 := HF2.out.1 k hlt
      have hy1 := u8_xor_nat (f0 k) (f1 k) hv0 hv1
      have hz := Nat.xor_lt_two_pow (n := 8) hv0 hv1
      have hy2 := u8_xor_nat (f0 k ^^^ f1 k) (f2 k) hz hv2
      rw [← HH.out k] at hy2
      clear hd0 hd1 hd2
      generalize f0 k ^^^ f1 k = z01 at *
      generalize f0 k = z0 at *
      generalize f1 k = z1 at *
      generalize f2 k = z2 at *
      have l0 : (k : Int) < len0 := by omega
      have l1 : (k : Int) < len1 := by omega
      have l2 : (k : Int) < len2 := by omega
      go_wp2_with fail
      have KB := Lib.hid (HB.out.alloc HB.out.size (.cells #[.int .u8 ((h k : Nat) : Int)] 5)).drew
      have KO := Lib.hid (HO.out.alloc (.cells #[.int .u8 ((h k : Nat) : Int)] 5)).drew
      have KC : Hid ((wr.alloc (.cells #[.int .u8 ((h k : Nat) : Int)] 5)).drew.cell? ⟨wr.heap.size, 0, none⟩ = some (.int .u8 ((h k : Nat) : Int))) := Lib.hid (by simp)
      have KS : Hid (w.heap.size ≤ (wr.alloc (.cells #[.int .u8 ((h k : Nat) : Int)] 5)).drew.heap.size) := Lib.hid KB.out.size
      go_region_law (first
        | (refine step_append_byte rfl (.tmp 22) (.tmp 37) rfl w.heap.size w KB.out KS.out u8 k h (by simp [Act.eval]) KO.out ⟨wr.heap.size, 0, none⟩ 1 (by simp [Act.eval]) KC.out (by omega) ?_; intro v1 w1 ho1 hb1))
      all_goals
        have HO1 := Lib.hid ho1
        have HB1 := Lib.hid hb1
        clear ho1 hb1
        go_wp2_with fail
        go_roundw
        case rel => exact ⟨k + 1, by omega, by go_num, HO1, HB1⟩
        case measure => simp [intOf]; omega
    · obtain rfl : k = n := by omega
      obtain ⟨p, c, rfl, hp1, hp2, hp3⟩ := bytes_of_owns HO.out fun j hj => by
        rw [HH.out]; exact Nat.xor_lt_two_pow (n := 8) (Nat.xor_lt_two_pow (n := 8) (HF0.out.1 j hj) (HF1.out.1 j hj)) (HF2.out.1 j hj)
      have KD : Below wr.heap.size wr wr.drew := (Below.refl _ _).drew
      have HP := Lib.hid (hp3.later KD)
      have HD := Lib.hid (HB.out.drew)
      have HTR := Lib.hid (HT.out.later HD.out HT.out.lt)
      have H0 := Lib.hid (HF0.out.later HD.out)
      have H1 := Lib.hid (HF1.out.later HD.out)
      have H2 := Lib.hid (HF2.out.later HD.out)
      have hs01 := u32_xor_nat (sumF f0 k) (sumF f1 k) (sumF_lt _ _) (sumF_lt _ _)
      have hs := u32_xor_nat (sumF f0 k ^^^ sumF f1 k) (sumF f2 k) (Nat.xor_lt_two_pow (n := 32) (sumF_lt _ _) (sumF_lt _ _)) (sumF_lt _ _)
      rw [← sumF_three f0 f1 f2 h k HF0.out.1 HF1.out.1 HF2.out.1 fun j _ => HH.out j] at hs
      clear hp3 HO KD
      go_wp2_with fail
      go_still_tail 18, (by kernel_rfl)
      still_call (sum_still _ _ _ _ _ HP.out (by omega) HTR.out)
      repeat still_step
      still_call (sum_still _ _ _ _ _ H0.out (by omega) HTR.out)
      repeat still_step
      still_call (sum_still _ _ _ _ _ H1.out (by omega) HTR.out)
      repeat still_step
      still_call (sum_still _ _ _ _ _ H2.out (by omega) HTR.out)
      repeat still_step
      refine wpStill_nil ?_
      change wpList _ _ _ _ _ wr.drew
      go_wp2_with fail
      refine (works_any _ HTR.out).mono ?_
      rintro e wC ⟨rfl, hC⟩
      go_wp2_with fail
      go_ret
      exact ⟨rfl, HD.out.trans (hC.mono HD.out.size)⟩

set_option maxRecDepth 100000 in
theorem lifted (os : Os) (started : os.Started) (H : Type) (enc : TypeId × Value → H) :
    ReturnsInHanded {} Tryd.checked os 5 .any (fun w args => (Rows.crcThreeSpec.pre enc Tryd.prog Tryd.f5 [] false w args ∧ laidMetH Tryd.prog Rows.crcThreeRow.laid w) ∧ sizedMet enc Tryd.prog Tryd.f5 (OpenSpec.ofChange Rows.crcThreeSpec) false w args) (Rows.crcThreeSpec.post enc Tryd.prog Tryd.f5 false true false false) := by
  refine returnsInHanded_of_change_and (C := Tryd.checked) (X := fun w _ => laidMetH Tryd.prog Rows.crcThreeRow.laid w) (fun _ _ _ hh h => h.of_heap hh) own started (by kernel_rfl) Tryd.func5
    (ChangeSpec.witness_shaped (enc := enc) (C := Tryd.checked) (os := os) (X := fun w _ => laidMetH Tryd.prog Rows.crcThreeRow.laid w) false (World.doorLaid Tryd.prog 400 os) #[.slice none 0 0, .slice none 0 0, .slice none 0 0] 8 rfl (World.shaped_of_RefB (by kernel_rfl) (by kernel_rfl)) (by kernel_rfl) (by kernel_rfl) (by kernel_rfl) (door_met os _)) ?_
  intro W base args ds gs before hval0 hW _ _ hL _
  have hval : ∀ (j : Nat) t v, Tryd.f5.params[j]? = some t → args[j]? = some v → Value.okWide Tryd.prog W .any base t v := hval0
  have hW' := hW
  obtain ⟨p, q, hA0, hV, rfl, hfz, hnd⟩ := hW
  have hA : DataW.TrodAll enc Tryd.prog W 0 (fun _ => true) true Tryd.f5.params.toList args.toList ds p := hA0
  rw [Tryd.params5] at hA hval
  obtain ⟨v0, vs0, d0, ds0, p0, q0, hargs, rfl, rfl, h0, r0⟩ := trodAll_cons hA
  obtain ⟨v1, vs1, d1, ds1, p1, q1, rfl, rfl, rfl, h1, r1⟩ := trodAll_cons r0
  obtain ⟨v2, vs2, d2, ds2, p2, q2, rfl, rfl, rfl, h2, r2⟩ := trodAll_cons r1
  obtain ⟨rfl, rfl, rfl⟩ := trodAll_nil r2
  obtain rfl : args = #[v0, v1, v2] := by cases args; simp_all
  obtain ⟨rfl, rfl⟩ := trodVars_none hV
  obtain ⟨a0, len0, cap0, rfl⟩ := okWide_slice Tryd.underlying22 (hval 0 22 v0 rfl rfl)
  have k0 := h0
  have lt0 : ∀ x ∈ p0, x.block < W.heap.size := by obtain ⟨m, hm⟩ := k0; exact DataW.trod_lt m _ _ _ hm
  obtain ⟨z0, w0⟩ : ∃ zs, IsRow .u8 W a0 len0 cap0 zs := by
    obtain ⟨fuel, hf⟩ := h0
    rcases open_ints Tryd.underlying22 Tryd.underlying5 (by kernel_rfl) hf with ⟨hcs, _⟩ | ⟨x, l, c, zs, hcs, _, hl, hm, hz, _, hcell, hwz⟩
    · simp [Value.cells] at hcs
      obtain ⟨rfl, rfl, rfl⟩ := hcs
      exact ⟨[], .inl ⟨rfl, rfl, rfl, rfl⟩⟩
    · simp [Value.cells] at hcs
      obtain ⟨rfl, rfl, rfl⟩ := hcs
      exact ⟨zs, .inr ⟨_, rfl, hl, hm, by simpa using hz, hcell, hwz⟩⟩
  obtain ⟨a1, len1, cap1, rfl⟩ := okWide_slice Tryd.underlying22 (hval 1 22 v1 rfl rfl)
  have k1 := h1
  have lt1 : ∀ x ∈ p1, x.block < W.heap.size := by obtain ⟨m, hm⟩ := k1; exact DataW.trod_lt m _ _ _ hm
  obtain ⟨z1, w1⟩ : ∃ zs, IsRow .u8 W a1 len1 cap1 zs := by
    obtain ⟨fuel, hf⟩ := h1
    rcases open_ints Tryd.underlying22 Tryd.underlying5 (by kernel_rfl) hf with ⟨hcs, _⟩ | ⟨x, l, c, zs, hcs, _, hl, hm, hz, _, hcell, hwz⟩
    · simp [Value.cells] at hcs
      obtain ⟨rfl, rfl, rfl⟩ := hcs
      exact ⟨[], .inl ⟨rfl, rfl, rfl, rfl⟩⟩
    · simp [Value.cells] at hcs
      obtain ⟨rfl, rfl, rfl⟩ := hcs
      exact ⟨zs, .inr ⟨_, rfl, hl, hm, by simpa using hz, hcell, hwz⟩⟩
  obtain ⟨a2, len2, cap2, rfl⟩ := okWide_slice Tryd.underlying22 (hval 2 22 v2 rfl rfl)
  have k2 := h2
  have lt2 : ∀ x ∈ p2, x.block < W.heap.size := by obtain ⟨m, hm⟩ := k2; exact DataW.trod_lt m _ _ _ hm
  obtain ⟨z2, w2⟩ : ∃ zs, IsRow .u8 W a2 len2 cap2 zs := by
    obtain ⟨fuel, hf⟩ := h2
    rcases open_ints Tryd.underlying22 Tryd.underlying5 (by kernel_rfl) hf with ⟨hcs, _⟩ | ⟨x, l, c, zs, hcs, _, hl, hm, hz, _, hcell, hwz⟩
    · simp [Value.cells] at hcs
      obtain ⟨rfl, rfl, rfl⟩ := hcs
      exact ⟨[], .inl ⟨rfl, rfl, rfl, rfl⟩⟩
    · simp [Value.cells] at hcs
      obtain ⟨rfl, rfl, rfl⟩ := hcs
      exact ⟨zs, .inr ⟨_, rfl, hl, hm, by simpa using hz, hcell, hwz⟩⟩
  clear hA0 hval0
  refine (walk a0 len0 cap0 z0 a1 len1 cap1 z1 a2 len2 cap2 z2 W (of_laid hL) w0 w1 w2).mono fun e W' ⟨he, bel⟩ => ?_
  subst he
  exact ⟨_, rfl, _, _, _, [], _, [], hW', trodAll_mk1 (shut_bool Tryd.underlying4 _), (trodAll_cons_mk (Below.trod laidOut (by kernel_rfl) (of_decide_eq_true (by kernel_rfl)) k0 bel lt0) (trodAll_cons_mk (Below.trod laidOut (by kernel_rfl) (of_decide_eq_true (by kernel_rfl)) k1 bel lt1) (trodAll_cons_mk (Below.trod laidOut (by kernel_rfl) (of_decide_eq_true (by kernel_rfl)) k2 bel lt2) trodAll_mk0))), rfl, bel.frame _, fun h => by cases h⟩

theorem over : Rows.crcThreeRow.holds Tryd.pinned (OpenSpec.ofChange Rows.crcThreeSpec) :=
  OpenClaim.holds_of_wide 5 Tryd.f5 rfl rfl rfl rfl rfl rfl rfl ⟨rfl, rfl, rfl, rfl, rfl⟩ rfl rfl rfl rfl rfl (by kernel_rfl) Tryd.func5 (by kernel_rfl)
    (of_decide_eq_true (by kernel_rfl)) (by unfold Func.isWrapper; first | (rw [if_pos (by decide +kernel)]; kernel_rfl) | (rw [if_neg (by decide +kernel)]; exact ⟨rfl, rfl⟩))
    (fun os started H enc _ => lifted os started H enc)

theorem proved : Rows.CrcThreeCardSaid :=
  Claim7.holds_tied_plain_at .later [] [.data] true (true, "7b123bce1e568699da8ae04d5be36bac09dff5987060df3eefb0255ff41a661c") false
    over (fun _ h => by cases h) (by kernel_rfl) (fun _ h => by cases h) crcThree_row_tie rfl ⟨rfl, rfl⟩ (by kernel_rfl) rfl
    (fun f fn hf hfn => by
      obtain rfl : f = 5 := Option.some.inj ((show Tryd.prog.funcNamed "pledge/pledgelaw02.CrcThree" = some 5 by kernel_rfl).symm.trans hf) |>.symm
      obtain rfl : fn = Tryd.f5 := (Option.some.inj (Tryd.func5.symm.trans hfn)).symm
      exact ⟨by kernel_rfl, fun j t ht => by
        rw [Tryd.params5] at ht
        have hm : t ∈ [22, 22, 22] := by simpa using Array.mem_of_getElem? ht
        have hall : ([22, 22, 22].all fun u => !Tryd.prog.wantsStandIn u) = true := by kernel_rfl
        exact (show Tryd.prog.wantsStandIn t = false by simpa using List.all_eq_true.1 hall t hm)⟩)
    (by kernel_rfl)
#print axioms proved
end Go.Proofs.YtoegffnmjohonaaDoor.crcThree
