/-
  KeyTexts answers true of any key and any text, and writes nothing that was there: the tied card. No condition but the card's own: the library's variables lie as the program's text lays them.
-/
import Derived.Test.YthkfijgdopjjjaaDoorRows
import Derived.Test.YthkfijgdopjjjaaDoorCards
import Derived.Test.YthkfijgdopjjjaaDoorTie
import Derived.SevenTiedAt
import Derived.Stop.Joined
import Derived.Test.YthkfijgdopjjjaaDoorKeyRefParse
import Derived.WalkKit
import Derived.ProofKit
import Derived.OpenShut
import Derived.ShutString
import Derived.ChangeOld
import Derived.Below
namespace Go.Proofs.YthkfijgdopjjjaaDoor.keyTexts
open Go.ChangeShapes Go.WideShapes Go.ChangeAt Go.RowKit
open Go.ChangeMaps (open_string shut_string)
set_option linter.unusedVariables false

theorem own : ownKnob Tryd.prog.godebug = none := by kernel_rfl
theorem laidOut : laidOutB Tryd.prog = true := by kernel_rfl
theorem says_one (L : List UInt8) (e : Ending) (h : Says L e) : e = .returned (.tuple #[kv ((parseK L).getD (0, 0, 0)), .bool (parseK L).isSome]) := by
  rcases h with ⟨k, hk, ht, rfl⟩ | ⟨hno, rfl⟩
  · have h := parse_text k hk
    rw [ht] at h
    rw [h]
    rfl
  · cases h : parseK L with
    | none => rfl
    | some k =>
      obtain ⟨hc, ht⟩ := parse_canon L k h
      exact absurd ht (hno k hc trivial)
theorem run_min2 (w : World) (x : Nat) (n : Nat) (hn : n = min x 40) :
    (Builtin.min_ #[3, 3] 3 #[.int .i64 (x : Int), .int .i64 40]).run Tryd.prog w = .ok (.int .i64 (n : Int)) w := by
  simp [Builtin.min_, Builtin.min2]
  repeat' split
  all_goals omega

set_option maxHeartbeats 1000000 in
set_option maxRecDepth 100000 in
theorem walk (k0 : K) (s1 : ByteArray) (w : World) (hv : Vars w) (w0 : Kok k0) (w1 : s1.size ≤ maxLen) :
    Calls Tryd.prog 6 #[.agg #[.int .u8 k0.1, .int .u8 k0.2.1, .int .u8 k0.2.2], .string s1] w fun e w' => e = .returned (.bool true) ∧ Below w.heap.size w w' := by
  have HV := Lib.hid hv
  obtain ⟨m, hm⟩ : ∃ m, m = min s1.size 40 := ⟨_, rfl⟩
  have hmin := fun w : World => run_min2 w s1.size m hm
  have hm0 : (0 : Int) ≤ m := by omega
  have hm1 : (m : Int) ≤ s1.size := by omega
  have hm2 : m ≤ s1.size := by omega
  obtain ⟨L, hL⟩ : ∃ L, L = s1.data.toList.take m := ⟨_, rfl⟩
  have hex : s1.extract 0 m = ⟨L.toArray⟩ := by rw [Lib.extract_eq, hL]; simp
  have hl40 : L.length ≤ 40 := by rw [hL, List.length_take]; omega
  have HP := Lib.hid fun W hv => parse_any L (by omega) W hv
  have HRP := Lib.hid fun W => refparse_any L (by omega) W
  have HSY := Lib.hid (says_one L)
  have HTX := Lib.hid fun W hv => text_any k0 w0 W hv
  have HRT := Lib.hid fun W => rtext_any k0 w0 W
  clear hv w0 w1 hm hL hl40
  generalize (parseK L).isSome = pb at *
  generalize (parseK L).getD (0, 0, 0) = kk at *
  obtain ⟨x, y, z⟩ := kk
  have hkv : kv (x, y, z) = .agg #[.int .u8 x, .int .u8 y, .int .u8 z] := rfl
  rw [hkv] at HP HSY
  have HSY2 : Hid (∀ e, Says L e → e = .returned (.tuple #[.agg #[.int .u8 x, .int .u8 y, .int .u8 z], .bool pb])) := Lib.hid HSY.out
  clear hkv HSY
  have ht0 := bytes_self ⟨(textL k0).toArray⟩
  have ht1 : ((⟨(textL k0).toArray⟩ : ByteArray).toList == (⟨(textL k0).toArray⟩ : ByteArray).toList) = true := by rw [← beq_toListBytes]; exact ht0
  generalize (⟨(textL k0).toArray⟩ : ByteArray) = tx at *
  have qn := fun W => key_eql x y z x y z W
  rw [decide_eq_true rfl] at qn
  generalize hss : (⟨L.toArray⟩ : ByteArray) = ss at *
  have HSS := Lib.hid hss
  clear hss
  go_enter Tryd.func6, Tryd.ntmps6
  go_wp2_with fail
  have HB1 := Lib.hid ((Below.refl w.heap.size w).alloc (Nat.le_refl _) (.cells #[.int .u8 k0.1, .int .u8 k0.2.1, .int .u8 k0.2.2] 23))
  have HX1 : Hid ((w.alloc (.cells #[.int .u8 k0.1, .int .u8 k0.2.1, .int .u8 k0.2.2] 23)).heap[w.heap.size]? = some (.cells #[.int .u8 k0.1, .int .u8 k0.2.1, .int .u8 k0.2.2] 23 (0, 0))) := Lib.hid (alloc_block _ _)
  generalize w.alloc (.cells #[.int .u8 k0.1, .int .u8 k0.2.1, .int .u8 k0.2.2] 23) = W1 at *
  generalize hX : w.heap.size = X at *
  have HX := Lib.hid hX
  clear hX
  refine (HP.out _ (HV.out.later (by rw [HX.out]; exact HB1.out))).mono ?_
  rintro e W2 ⟨rfl, h⟩
  have HB2 := Lib.hid ((HB1.out.trans (h.mono (by have := HB1.out.size; rw [HX.out] at this; exact this))).alloc (by have h1 := HB1.out.size; have h2 := h.size; rw [HX.out] at h1; omega) (.cells #[.int .u8 x, .int .u8 y, .int .u8 z] 23))
  have HX2 := Lib.hid (block_later (block_later HX1.out h) ((Below.refl _ _).alloc (Nat.le_refl _) (.cells #[.int .u8 x, .int .u8 y, .int .u8 z] 23)))
  have HY2 : Hid ((W2.alloc (.cells #[.int .u8 x, .int .u8 y, .int .u8 z] 23)).heap[W2.heap.size]? = some (.cells #[.int .u8 x, .int .u8 y, .int .u8 z] 23 (0, 0))) := Lib.hid (alloc_block _ _)
  clear h HB1 HX1
  go_wp2_with fail
  generalize W2.alloc (.cells #[.int .u8 x, .int .u8 y, .int .u8 z] 23) = W3 at *
  generalize W2.heap.size = Y at *
  refine (HRP.out _).mono ?_
  rintro e W4 ⟨hsay, h⟩
  obtain rfl := HSY2.out e hsay
  clear hsay
  have HB4 := Lib.hid ((HB2.out.trans (h.mono (by have := HB2.out.size; rw [HX.out] at this; exact this))).alloc (by have h1 := HB2.out.size; have h2 := h.size; rw [HX.out] at h1; omega) (.cells #[.int .u8 x, .int .u8 y, .int .u8 z] 23))
  have HX4 := Lib.hid (block_later (block_later HX2.out h) ((Below.refl _ _).alloc (Nat.le_refl _) (.cells #[.int .u8 x, .int .u8 y, .int .u8 z] 23)))
  have HY4 := Lib.hid (block_later (block_later HY2.out h) ((Below.refl _ _).alloc (Nat.le_refl _) (.cells #[.int .u8 x, .int .u8 y, .int .u8 z] 23)))
  have HZ4 : Hid ((W4.alloc (.cells #[.int .u8 x, .int .u8 y, .int .u8 z] 23)).heap[W4.heap.size]? = some (.cells #[.int .u8 x, .int .u8 y, .int .u8 z] 23 (0, 0))) := Lib.hid (alloc_block _ _)
  clear h HB2 HX2 HY2
  go_wp2_with fail
  generalize W4.alloc (.cells #[.int .u8 x, .int .u8 y, .int .u8 z] 23) = W5 at *
  generalize W4.heap.size = Z at *
  have a0 := fun p : After W5 => cell_after p (block_cell (j := 0) HX4.out rfl)
  have a1 := fun p : After W5 => cell_after p (block_cell (j := 1) HX4.out rfl)
  have a2 := fun p : After W5 => cell_after p (block_cell (j := 2) HX4.out rfl)
  have b0 := fun p : After W5 => cell_after p (block_cell (j := 0) HY4.out rfl)
  have b1 := fun p : After W5 => cell_after p (block_cell (j := 1) HY4.out rfl)
  have b2 := fun p : After W5 => cell_after p (block_cell (j := 2) HY4.out rfl)
  have c0 := fun p : After W5 => cell_after p (block_cell (j := 0) HZ4.out rfl)
  have c1 := fun p : After W5 => cell_after p (block_cell (j := 1) HZ4.out rfl)
  have c2 := fun p : After W5 => cell_after p (block_cell (j := 2) HZ4.out rfl)
  have HV5 := Lib.hid (HV.out.later (by rw [HX.out]; exact HB4.out) : Vars W5)
  clear hmin hm0 hm1 hm2 hex
  have hpb : (pb == pb) = true := by simp
  refine wp_region_after (by kernel_rfl) (by kernel_rfl) ?_
  repeat (go_big_quiet_step (first
    | (go_at_call 23; exact calls_after_gr _ (HTX.out _ (HV5.out.later (After.h _))))
    | (go_at_call 24; exact calls_after _ (HRT.out _))
    | (go_at_call 16; exact calls_after _ (works_any _ (HV5.out.later (After.h _))))))
  refine wpQuiet_nil ?_
  intro _ hw'
  obtain ⟨⟨w6, h6⟩, hw''⟩ := hw'
  subst hw''
  have HB6 := Lib.hid (HB4.out.trans (h6.mono (by have := HB4.out.size; rw [HX.out] at this; exact this)))
  clear h6 a0 a1 a2 b0 b1 b2 c0 c1 c2 qn
  go_wp2_with fail
  go_ret
  exact ⟨rfl, by rw [HX.out]; exact HB6.out⟩

set_option maxRecDepth 100000 in
theorem lifted (os : Os) (started : os.Started) (H : Type) (enc : TypeId × Value → H) :
    ReturnsInHanded {} Tryd.checked os 6 .any (fun w args => (Rows.keyTextsSpec.pre enc Tryd.prog Tryd.f6 [] false w args ∧ laidMetH Tryd.prog Rows.keyTextsRow.laid w) ∧ sizedMet enc Tryd.prog Tryd.f6 (OpenSpec.ofChange Rows.keyTextsSpec) false w args) (Rows.keyTextsSpec.post enc Tryd.prog Tryd.f6 false true false false) := by
  refine returnsInHanded_of_change_and (C := Tryd.checked) (X := fun w _ => laidMetH Tryd.prog Rows.keyTextsRow.laid w) (fun _ _ _ hh h => h.of_heap hh) own started (by kernel_rfl) Tryd.func6
    (ChangeSpec.witness_shaped (enc := enc) (C := Tryd.checked) (os := os) (X := fun w _ => laidMetH Tryd.prog Rows.keyTextsRow.laid w) false (World.doorLaid Tryd.prog 400 os) #[.agg #[.int .u8 0, .int .u8 0, .int .u8 0], .string ⟨#[]⟩] 8 rfl (World.shaped_of_RefB (by kernel_rfl) (by kernel_rfl)) (by kernel_rfl) (by kernel_rfl) (by kernel_rfl) (door_met os _)) ?_
  intro W base args ds gs before hval0 hW _ _ hL _
  have hval : ∀ (j : Nat) t v, Tryd.f6.params[j]? = some t → args[j]? = some v → Value.okWide Tryd.prog W .any base t v := hval0
  have hW' := hW
  obtain ⟨p, q, hA0, hV, rfl, hfz, hnd⟩ := hW
  have hA : DataW.TrodAll enc Tryd.prog W 0 (fun _ => true) true Tryd.f6.params.toList args.toList ds p := hA0
  rw [Tryd.params6] at hA hval
  obtain ⟨v0, vs0, d0, ds0, p0, q0, hargs, rfl, rfl, h0, r0⟩ := trodAll_cons hA
  obtain ⟨v1, vs1, d1, ds1, p1, q1, rfl, rfl, rfl, h1, r1⟩ := trodAll_cons r0
  obtain ⟨rfl, rfl, rfl⟩ := trodAll_nil r1
  obtain rfl : args = #[v0, v1] := by cases args; simp_all
  obtain ⟨rfl, rfl⟩ := trodVars_none hV
  have k0 := h0
  have lt0 : ∀ x ∈ p0, x.block < W.heap.size := by obtain ⟨m, hm⟩ := k0; exact DataW.trod_lt m _ _ _ hm
  obtain ⟨x0, rfl, w0⟩ := open_key (hval 0 23 v0 rfl rfl) h0
  have k1 := h1
  have lt1 : ∀ x ∈ p1, x.block < W.heap.size := by obtain ⟨m, hm⟩ := k1; exact DataW.trod_lt m _ _ _ hm
  obtain ⟨s1, rfl, rfl, rfl, w1⟩ := open_string Tryd.underlying9 (hval 1 9 v1 rfl rfl) h1
  clear hA0 hval0
  refine (walk x0 s1 W (of_laid hL) w0 w1).mono fun e W' ⟨he, bel⟩ => ?_
  subst he
  exact ⟨_, rfl, _, _, _, [], _, [], hW', trodAll_mk1 (shut_bool Tryd.underlying4 _), (trodAll_cons_mk (Below.trod laidOut (by kernel_rfl) (of_decide_eq_true (by kernel_rfl)) k0 bel lt0) (trodAll_cons_mk (Below.trod laidOut (by kernel_rfl) (of_decide_eq_true (by kernel_rfl)) k1 bel lt1) trodAll_mk0)), rfl, bel.frame _, fun h => by cases h⟩

theorem over : Rows.keyTextsRow.holds Tryd.pinned (OpenSpec.ofChange Rows.keyTextsSpec) :=
  OpenClaim.holds_of_wide 6 Tryd.f6 rfl rfl rfl rfl rfl rfl rfl ⟨rfl, rfl, rfl, rfl, rfl⟩ rfl rfl rfl rfl rfl (by kernel_rfl) Tryd.func6 (by kernel_rfl)
    (of_decide_eq_true (by kernel_rfl)) (by unfold Func.isWrapper; first | (rw [if_pos (by decide +kernel)]; kernel_rfl) | (rw [if_neg (by decide +kernel)]; exact ⟨rfl, rfl⟩))
    (fun os started H enc _ => lifted os started H enc)

theorem proved : Rows.KeyTextsCardSaid :=
  Claim7.holds_tied_plain_at .later [] [.data, .data, .data, .sentinel, .sentinel] true (true, "b1d0fd53b19cb1e08d0b4129f2ab4db37302d229c001c238747dfdcafbb347b4") true
    over (fun _ h => by cases h) (by kernel_rfl) (fun _ h => by cases h) keyTexts_row_tie rfl ⟨rfl, rfl⟩ (by kernel_rfl) rfl
    (fun f fn hf hfn => by
      obtain rfl : f = 6 := Option.some.inj ((show Tryd.prog.funcNamed "pledge/pledgelaw04.KeyTexts" = some 6 by kernel_rfl).symm.trans hf) |>.symm
      obtain rfl : fn = Tryd.f6 := (Option.some.inj (Tryd.func6.symm.trans hfn)).symm
      exact ⟨by kernel_rfl, fun j t ht => by
        rw [Tryd.params6] at ht
        have hm : t ∈ [23, 9] := by simpa using Array.mem_of_getElem? ht
        have hall : ([23, 9].all fun u => !Tryd.prog.wantsStandIn u) = true := by kernel_rfl
        exact (show Tryd.prog.wantsStandIn t = false by simpa using List.all_eq_true.1 hall t hm)⟩)
    (by kernel_rfl)
#print axioms proved
end Go.Proofs.YthkfijgdopjjjaaDoor.keyTexts
