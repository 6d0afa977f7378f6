/-
  OpUndoes answers true of any additions, and writes nothing that was there. No condition.
PLAIN4
-/
import Derived.Test.YtmjhfohpllndhaaRows
import Derived.Test.YtmjhfohpllndhaaOpArgs
import Derived.WalkKit
import Derived.ProofKit
import Derived.OpenShut
import Derived.ShutString
import Derived.ChangeOld
import Derived.Below
namespace Go.Proofs.Ytmjhfohpllndhaa.opUndoes
open Go.ChangeShapes Go.WideShapes Go.ChangeAt Go.RowKit
open Go.ChangeMaps (open_string shut_string)
set_option linter.unusedVariables false

theorem own : ownKnob Try.prog.godebug = none := by kernel_rfl
theorem laidOut : laidOutB Try.prog = true := by kernel_rfl

set_option maxHeartbeats 1000000 in
set_option maxRecDepth 100000 in
theorem walk (a0 : Option Addr) (len0 cap0 : Nat) (L0 : List O) (w : World) (w0 : OL w a0 len0 cap0 L0 ∧ ∀ y ∈ L0, Ook y) :
    Calls Try.prog 5 #[.slice a0 len0 cap0] w fun e w' => e = .returned (.bool true) ∧ Below w.heap.size w w' := by
  obtain ⟨hA, hok⟩ := w0
  obtain ⟨k0, hk0, hl0, hb0⟩ : ∃ k : Nat, min (len0 : Int) 60 = (k : Int) ∧ k ≤ len0 ∧ k ≤ 60 := min_of len0 60
  have hL := hA.take k0 hl0
  have hkT := take_ok hok k0
  have hcap := hL.cap
  have hmax := hL.max
  unfold maxLen at hmax
  have hlc := hA.cap
  generalize L0.take k0 = L at *
  have HL := Lib.hid hL
  have HOK := Lib.hid hkT
  have HLN := Lib.hid hL.len
  clear hA hok hL hkT
  have hn1 := neg_o a0 k0 cap0 L w HL.out HOK.out (by omega)
  cases hb : negB L with
  | false =>
    rw [hb, negV_false hb] at hn1
    clear hb
    go_enter Try.func5, Try.ntmps5
    go_wp2_with fail
    refine hn1.mono ?_
    rintro e w1 ⟨p1, c1, rfl, hs1, hb1, _⟩
    have HB1 := Lib.hid hb1
    clear hn1 hs1 hb1
    simp only [List.length_nil]
    go_wp2_with fail
    refine (op_works _).mono ?_
    rintro e w7 ⟨rfl, hb7⟩
    have HB7 := Lib.hid (HB1.out.trans (hb7.mono HB1.out.size))
    clear hb7
    go_wp2_with fail
    go_ret
    exact ⟨rfl, HB7.out⟩
  | true =>
    have hlen : (negF L).length = k0 := by rw [← gathN_end, gathN_len, HLN.out, Nat.sub_zero]
    have HVK := Lib.hid (neg_ok HOK.out hb)
    have hag := neg_again HOK.out
    have hnn := neg_neg_list L
    have hun := net_undone L
    rw [hb, negV_true hb] at hn1
    have HLE := Lib.hid hlen
    have HAG := Lib.hid hag
    have HNN := Lib.hid hnn
    have HUN := Lib.hid hun
    clear hb hlen hag hnn hun
    generalize hM : negF L = M at *
    go_enter Try.func5, Try.ntmps5
    go_wp2_with fail
    refine hn1.mono ?_
    rintro e w1 ⟨p1, c1, rfl, hs1, hb1, _⟩
    rw [HLE.out] at hs1
    rw [HLE.out]
    have hcap1 := hs1.cap
    have hn2 := neg_o p1 k0 c1 M w1 hs1 HVK.out (by omega)
    rw [HAG.out, negV_true HAG.out, HNN.out] at hn2
    have HS1 := Lib.hid hs1
    have HB1 := Lib.hid hb1
    have HL1 := Lib.hid (HL.out.later hb1)
    clear hn1 hs1 hb1 hM
    go_wp2_with fail
    refine hn2.mono ?_
    rintro e w2 ⟨p2, c2, rfl, hs2, hb2, _⟩
    rw [HLN.out] at hs2
    rw [HLN.out]
    have HB2 := Lib.hid (HB1.out.trans (hb2.mono HB1.out.size))
    have HL2 := Lib.hid (HL1.out.later hb2)
    have HS12 := Lib.hid (HS1.out.later hb2)
    have HS2 := Lib.hid hs2
    -- the empty row, and both lists behind it
    have hb3 : Below w2.heap.size w2 (w2.alloc (.cells #[] 37)) := (Below.refl _ _).alloc (Nat.le_refl _) _
    have hr3 : (w2.alloc (.cells #[] 37)).ownsRow 0 37 4 (.slice (some ⟨w2.heap.size, 0, none⟩) 0 0) 0 (flatG oc []) := (World.ownsRow_lit w2 #[] 0 (Nat.zero_le _) (Nat.zero_le _) rfl)
    have HB3 := Lib.hid hb3
    have HR3 := Lib.hid hr3
    have HK : Hid (∀ o ∈ L ++ M, Ook o) := Lib.hid fun o ho => by
      rcases List.mem_append.1 ho with ho | ho
      · exact HOK.out o ho
      · exact HVK.out o ho
    clear hn2 hs2 hb2 hb3 hr3 HS1 HL1
    go_wp2_with (first | (at_builtin; refine wpList_append_ol rfl _ _ rfl (.slice (some ⟨w2.heap.size, 0, none⟩) 0 0) 0 [] rfl HR3.out a0 k0 cap0 L rfl (HL2.out.later HB3.out) k0 (by omega) (by omega) ?_; intro p5 c5 w5 r5 q5 b5; have hb5 : Below w2.heap.size w2 w5 := Chg.below HB3.out HB3.out.size q5 (fun k hk => by simp [Value.ownBlock] at hk; omega)) | (at_builtin; refine wpList_append_ol rfl _ _ rfl (.slice p5 k0 c5) k0 L rfl r5 p1 k0 c1 M rfl (HS12.out.later hb5) (k0 + k0) rfl (by omega) ?_; intro p6 c6 w6 r6 q6 b6; have hb6 : Below w2.heap.size w2 w6 := Chg.below hb5 hb5.size q6 (fun k hk => by rcases b5 k hk with h | h; simp [Value.ownBlock] at h; omega; exact Nat.le_trans HB3.out.size h)))
    obtain ⟨p7, c7, he, hs7, _⟩ := SlG.of_own (d := o0) oc_len (by decide) r6
    cases he
    have hn7 := net_o p6 (k0 + k0) c6 (L ++ M) w6 hs7 HK.out (by omega)
    rw [HUN.out.1, HUN.out.2] at hn7
    have HB6 := Lib.hid hb6
    clear r5 q5 b5 hb5 r6 q6 b6 hb6 hs7
    refine hn7.mono ?_
    rintro e w7 ⟨p8, c8, rfl, _, hb7, _⟩
    have HB7 := Lib.hid (HB6.out.trans (hb7.mono HB6.out.size))
    have hq := rsame_o p2 a0 k0 k0 c2 cap0 L L w7 (HS2.out.later HB7.out) (HL2.out.later HB7.out) (by omega) (by omega)
    rw [decide_eq_true (rfl : L = L)] at hq
    clear hn7 hb7
    simp only [List.length_nil]
    go_wp2_with fail
    refine hq.mono ?_
    rintro e w8 ⟨rfl, hb8⟩
    have HB8 := Lib.hid (HB7.out.trans (hb8.mono HB7.out.size))
    clear hq hb8
    go_wp2_with fail
    refine (op_works _).mono ?_
    rintro e w9 ⟨rfl, hb9⟩
    have HB9 := Lib.hid (HB8.out.trans (hb9.mono HB8.out.size))
    clear hb9
    go_wp2_with fail
    go_ret
    exact ⟨rfl, HB2.out.trans (HB9.out.mono HB2.out.size)⟩

set_option maxRecDepth 100000 in
theorem lifted (os : Os) (started : os.Started) (H : Type) (enc : TypeId × Value → H) :
    ReturnsInHanded {} Try.checked os 5 .any (Rows.opUndoesSpec.pre6 enc Try.prog Try.f5 Rows.opUndoesRow.domain false) (Rows.opUndoesSpec.post enc Try.prog Try.f5 false true false false) := by
  refine returnsInHanded_of_change (C := Try.checked) own started (by kernel_rfl) Try.func5
    (ChangeSpec.witness6 (enc := enc) (C := Try.checked) false ⟨#[], #[.slice none 0 0], []⟩ 8 (by kernel_rfl) (by kernel_rfl) (by kernel_rfl) (by kernel_rfl)) ?_
  intro W base args ds gs before hval0 hW hcnd _
  have hval : ∀ (j : Nat) t v, Try.f5.params[j]? = some t → args[j]? = some v → Value.okWide Try.prog W .any base t v := hval0
  have hW' := hW
  obtain ⟨p, q, hA0, hV, rfl, hfz, hnd⟩ := hW
  have hA : DataW.TrodAll enc Try.prog W 0 (fun _ => true) true Try.f5.params.toList args.toList ds p := hA0
  rw [Try.params5] at hA hval
  obtain ⟨v0, vs0, d0, ds0, p0, q0, hargs, rfl, rfl, h0, r0⟩ := trodAll_cons hA
  obtain ⟨rfl, rfl, rfl⟩ := trodAll_nil r0
  obtain rfl : args = #[v0] := by cases args; simp_all
  obtain ⟨rfl, rfl⟩ := trodVars_none hV
  obtain ⟨a0, len0, cap0, rfl⟩ := okWide_slice Try.underlying22 (hval 0 22 v0 rfl rfl)
  have k0 := h0
  have lt0 : ∀ x ∈ p0, x.block < W.heap.size := by obtain ⟨m, hm⟩ := k0; exact DataW.trod_lt m _ _ _ hm
  obtain ⟨L0, w0⟩ : ∃ L, OL W a0 len0 cap0 L ∧ ∀ y ∈ L, Ook y := by
    obtain ⟨fuel, hf⟩ := h0
    exact open_ops hf
  clear hA0 hval0
  refine (walk a0 len0 cap0 L0 W w0).mono fun e W' ⟨he, bel⟩ => ?_
  subst he
  exact ⟨_, rfl, _, _, _, [], _, [], hW', trodAll_mk1 (shut_bool Try.underlying4 _), (trodAll_cons_mk (Below.trod laidOut (by kernel_rfl) (of_decide_eq_true (by kernel_rfl)) k0 bel lt0) trodAll_mk0), rfl, bel.frame _, fun h => by cases h⟩

theorem over : Rows.opUndoesRow.holds Try.pinned (OpenSpec.ofChange Rows.opUndoesSpec) :=
  OpenClaim.holds_of_wide 5 Try.f5 rfl rfl rfl rfl rfl rfl rfl ⟨rfl, rfl, rfl, rfl, rfl⟩ rfl rfl rfl rfl rfl (by kernel_rfl) Try.func5 (by kernel_rfl)
    (of_decide_eq_true (by kernel_rfl)) (by unfold Func.isWrapper; first | (rw [if_pos (by decide +kernel)]; kernel_rfl) | (rw [if_neg (by decide +kernel)]; exact ⟨rfl, rfl⟩))
    (fun os started H enc _ => lifted os started H enc)

theorem proved : Rows.OpUndoesSaid := over
#print axioms proved
end Go.Proofs.Ytmjhfohpllndhaa.opUndoes
