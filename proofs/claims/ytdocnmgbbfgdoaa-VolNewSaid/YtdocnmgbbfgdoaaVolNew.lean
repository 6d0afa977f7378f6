/-
  VolNew answers true of any two numbers, and writes nothing that was there. No condition.
PLAIN4
-/
import Derived.Test.YtdocnmgbbfgdoaaRows
import Derived.Test.YtdocnmgbbfgdoaaVolSame
import Derived.Test.YtdocnmgbbfgdoaaVolWorks
import Derived.WalkKit
import Derived.ProofKit
import Derived.OpenShut
import Derived.ShutString
import Derived.ChangeOld
import Derived.Below
namespace Go.Proofs.Ytdocnmgbbfgdoaa.volNew
open Go.ChangeShapes Go.WideShapes Go.ChangeAt Go.RowKit
open Go.ChangeMaps (open_string shut_string)
set_option linter.unusedVariables false

theorem own : ownKnob Try.prog.godebug = none := by kernel_rfl
theorem laidOut : laidOutB Try.prog = true := by kernel_rfl

set_option maxHeartbeats 1000000 in
set_option maxRecDepth 100000 in
theorem walk (a0 : Int) (a1 : Int) (w : World) (w0 : (Lit.int .i64 a0).wf = true) (w1 : (Lit.int .i64 a1).wf = true) :
    Calls Try.prog 4 #[.int .i64 a0, .int .i64 a1] w fun e w' => e = .returned (.bool true) ∧ Below w.heap.size w w' := by
  obtain ⟨x0, hx0⟩ : ∃ x0 : Int, x0 = min a0 3 := ⟨_, rfl⟩
  obtain ⟨y0, hy0⟩ : ∃ y0 : Int, y0 = min a1 100 := ⟨_, rfl⟩
  have hx1 : (if (3 : Int) < a0 then 3 else a0) = x0 := by rw [hx0]; split <;> omega
  have hy1 : (if (100 : Int) < a1 then 100 else a1) = y0 := by rw [hy0]; split <;> omega
  have hx2 : min a0 3 = x0 := hx0.symm
  have hy2 : min a1 100 = y0 := hy0.symm
  clear hx0 hy0 w0 w1
  go_enter Try.func4, Try.ntmps4
  go_wp2_with fail
  refine (new_any a0 y0 w).mono ?_
  rintro e W1 ⟨rfl, hv1, hb1⟩
  have HV1 := Lib.hid hv1
  have HB1 := Lib.hid hb1
  clear hv1 hb1
  have l1 := kp_le a0 1024 (by omega)
  have l2 := kp_le y0 4096 (by omega)
  generalize hX1 : w.heap.size = X1 at *
  have HX1 := Lib.hid hX1
  clear hX1
  go_wp2_with fail
  refine (refnew_any a0 y0 W1).mono ?_
  rintro e W2 ⟨p1, c1, rfl, hr2, hb2⟩
  have hbx : Below W2.heap.size W2 (W2.alloc (.cells #[.slice p1 (kp a0 1024) c1, .int .i64 (kp y0 4096 : Nat)] 29)) := (Below.refl _ _).alloc (Nat.le_refl _) _
  have hb13 := hb2.trans (hbx.mono hb2.size)
  have HV3 := Lib.hid (HV1.out.later hb13)
  have HB3 := Lib.hid (HB1.out.trans (hb13.mono (by have := HB1.out.size; have := HX1.out; omega)))
  have HC3 := Lib.hid (alloc_block W2 (.cells #[.slice p1 (kp a0 1024) c1, .int .i64 (kp y0 4096 : Nat)] 29))
  clear hr2 hb2 hbx hb13 HV1 HB1
  generalize kp a0 1024 = n1 at *
  generalize kp y0 4096 = s1 at *
  go_wp2_with fail
  generalize W2.alloc (.cells #[.slice p1 n1 c1, .int .i64 (s1 : Nat)] 29) = W3 at *
  generalize W2.heap.size = X2 at *
  have l3 := kp_le x0 1024 (by omega)
  have l4 := kp_le a1 4096 (by omega)
  refine (new_any x0 a1 W3).mono ?_
  rintro e W4 ⟨rfl, hv4, hb4⟩
  have HV4 := Lib.hid hv4
  have HV34 := Lib.hid (HV3.out.later hb4)
  have HC4 := Lib.hid (block_later HC3.out hb4)
  have HB4 := Lib.hid (HB3.out.trans (hb4.mono (by have := HB3.out.size; have := HX1.out; omega)))
  clear hv4 hb4 HV3 HC3 HB3
  generalize hX3 : W3.heap.size = X3 at *
  clear hX3
  go_wp2_with fail
  refine (refnew_any x0 a1 W4).mono ?_
  rintro e W5 ⟨p2, c2, rfl, hr5, hb5⟩
  have hbx : Below W5.heap.size W5 (W5.alloc (.cells #[.slice p2 (kp x0 1024) c2, .int .i64 (kp a1 4096 : Nat)] 29)) := (Below.refl _ _).alloc (Nat.le_refl _) _
  have hb46 := hb5.trans (hbx.mono hb5.size)
  have HV6 := Lib.hid (HV34.out.later hb46)
  have HU6 := Lib.hid (HV4.out.later hb46)
  have HR6 := Lib.hid (hr5.later hbx)
  have HB6 := Lib.hid (HB4.out.trans (hb46.mono (by have := HB4.out.size; have := HX1.out; omega)))
  have HC6 := Lib.hid (block_later HC4.out hb46)
  have HD6 := Lib.hid (alloc_block W5 (.cells #[.slice p2 (kp x0 1024) c2, .int .i64 (kp a1 4096 : Nat)] 29))
  clear hr5 hb5 hbx hb46 HV34 HV4 HB4 HC4
  generalize kp x0 1024 = n2 at *
  generalize kp a1 4096 = s2 at *
  go_wp2_with fail
  generalize W5.alloc (.cells #[.slice p2 n2 c2, .int .i64 (s2 : Nat)] 29) = W6 at *
  generalize W5.heap.size = X5 at *
  have k1 : PB W6 X1 n1 s1 := ⟨_, _, HV6.out, zeroV_len n1 s1⟩
  have k2 : PB W6 X3 n2 s2 := ⟨_, _, HU6.out, zeroV_len n2 s2⟩
  have k5 : ∀ r : After W6, Calls Try.prog 12 #[.pointer (some ⟨X3, 0, none⟩), .agg #[.slice p2 n2 c2, .int .i64 (s2 : Nat)]] r.w fun e w' => e = .returned (.bool true) ∧ Below r.w.heap.size r.w w' := fun r => same_any _ _ _ n2 _ _ p2 c2 r.w (HU6.out.later r.h) (HR6.out.later r.h) (zeroV_len n2 s2)
  have k6 : ∀ r : After W6, Calls Try.prog 8 #[] r.w fun e w' => e = .returned (.bool true) ∧ Below r.w.heap.size r.w w' := fun r => vol_works r.w
  have K := Lib.hid (And.intro k5 k6)
  clear k5 k6
  have c0 := fun r : After W6 => cell_after r (block_cell (j := 0) HC6.out (v := .slice p1 n1 c1) rfl)
  have c1' := fun r : After W6 => cell_after r (block_cell (j := 1) HC6.out (v := .int .i64 (s1 : Nat)) rfl)
  have d0' := fun r : After W6 => cell_after r (block_cell (j := 0) HD6.out (v := .slice p2 n2 c2) rfl)
  have d1' := fun r : After W6 => cell_after r (block_cell (j := 1) HD6.out (v := .int .i64 (s2 : Nat)) rfl)
  have q1 : ((n1 : Int) == (n1 : Int)) = true := by simp
  have q2 : ((s1 : Int) == (s1 : Int)) = true := by simp
  have q3 : ((n2 : Int) == (n2 : Int)) = true := by simp
  have q4 : ((s2 : Int) == (s2 : Int)) = true := by simp
  refine wp_region_after (by kernel_rfl) (by kernel_rfl) ?_
  repeat (go_big_quiet_step (first | (go_at_call 13; exact calls_after_same _ (blocks_pb (by assumption) _)) | (go_at_call 14; exact calls_after_same _ (size_pb (by assumption) _)) | (go_at_call 12; exact calls_after _ (K.out.1 _)) | (go_at_call 8; exact calls_after _ (K.out.2 _))))
  refine wpQuiet_nil ?_
  intro w4 hw'
  obtain ⟨⟨wq, h6⟩, hw''⟩ := hw'
  subst hw''
  have hfin := HB6.out.trans (h6.mono (by have := HB6.out.size; have := HX1.out; omega))
  rw [← HX1.out] at hfin
  have HFIN := Lib.hid hfin
  clear h6 hfin c0 c1' d0' d1' K q1 q2 q3 q4 k1 k2
  go_wp2_with fail
  go_ret
  exact ⟨rfl, HFIN.out⟩

set_option maxRecDepth 100000 in
theorem lifted (os : Os) (started : os.Started) (H : Type) (enc : TypeId × Value → H) :
    ReturnsInHanded {} Try.checked os 4 .any (Rows.volNewSpec.pre6 enc Try.prog Try.f4 Rows.volNewRow.domain false) (Rows.volNewSpec.post enc Try.prog Try.f4 false true false false) := by
  refine returnsInHanded_of_change (C := Try.checked) own started (by kernel_rfl) Try.func4
    (ChangeSpec.witness6 (enc := enc) (C := Try.checked) false ⟨#[], #[.int .i64 0, .int .i64 0], []⟩ 8 (by kernel_rfl) (by kernel_rfl) (by kernel_rfl) (by kernel_rfl)) ?_
  intro W base args ds gs before hval0 hW hcnd _
  have hval : ∀ (j : Nat) t v, Try.f4.params[j]? = some t → args[j]? = some v → Value.okWide Try.prog W .any base t v := hval0
  have hW' := hW
  obtain ⟨p, q, hA0, hV, rfl, hfz, hnd⟩ := hW
  have hA : DataW.TrodAll enc Try.prog W 0 (fun _ => true) true Try.f4.params.toList args.toList ds p := hA0
  rw [Try.params4] at hA hval
  obtain ⟨v0, vs0, d0, ds0, p0, q0, hargs, rfl, rfl, h0, r0⟩ := trodAll_cons hA
  obtain ⟨v1, vs1, d1, ds1, p1, q1, rfl, rfl, rfl, h1, r1⟩ := trodAll_cons r0
  obtain ⟨rfl, rfl, rfl⟩ := trodAll_nil r1
  obtain rfl : args = #[v0, v1] := by cases args; simp_all
  obtain ⟨rfl, rfl⟩ := trodVars_none hV
  have k0 := h0
  have lt0 : ∀ x ∈ p0, x.block < W.heap.size := by obtain ⟨m, hm⟩ := k0; exact DataW.trod_lt m _ _ _ hm
  obtain ⟨a0, rfl, rfl, rfl, w0⟩ := open_int Try.underlying3 (hval 0 3 v0 rfl rfl) h0
  have k1 := h1
  have lt1 : ∀ x ∈ p1, x.block < W.heap.size := by obtain ⟨m, hm⟩ := k1; exact DataW.trod_lt m _ _ _ hm
  obtain ⟨a1, rfl, rfl, rfl, w1⟩ := open_int Try.underlying3 (hval 1 3 v1 rfl rfl) h1
  clear hA0 hval0
  refine (walk a0 a1 W w0 w1).mono fun e W' ⟨he, bel⟩ => ?_
  subst he
  exact ⟨_, rfl, _, _, _, [], _, [], hW', trodAll_mk1 (shut_bool Try.underlying4 _), (trodAll_cons_mk (Below.trod laidOut (by kernel_rfl) (of_decide_eq_true (by kernel_rfl)) k0 bel lt0) (trodAll_cons_mk (Below.trod laidOut (by kernel_rfl) (of_decide_eq_true (by kernel_rfl)) k1 bel lt1) trodAll_mk0)), rfl, bel.frame _, fun h => by cases h⟩

theorem over : Rows.volNewRow.holds Try.pinned (OpenSpec.ofChange Rows.volNewSpec) :=
  OpenClaim.holds_of_wide 4 Try.f4 rfl rfl rfl rfl rfl rfl rfl ⟨rfl, rfl, rfl, rfl, rfl⟩ rfl rfl rfl rfl rfl (by kernel_rfl) Try.func4 (by kernel_rfl)
    (of_decide_eq_true (by kernel_rfl)) (by unfold Func.isWrapper; first | (rw [if_pos (by decide +kernel)]; kernel_rfl) | (rw [if_neg (by decide +kernel)]; exact ⟨rfl, rfl⟩))
    (fun os started H enc _ => lifted os started H enc)

theorem proved : Rows.VolNewSaid := over
#print axioms proved
end Go.Proofs.Ytdocnmgbbfgdoaa.volNew
