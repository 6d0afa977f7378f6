/- A call by its number; the chapter's example. (Written by tools/src/mkfielddo.py.) -/
import Derived.Test.YtgjfgabagfhnoaaFieldMade
namespace Go.Proofs.Ytgjfgabagfhnoaa
open Go.RowKit Go.ChangeShapes Go.WideShapes
set_option linter.unusedVariables false
set_option linter.unusedSimpArgs false
set_option maxRecDepth 10000

/-- A call by its number: 0 Grant, 1 Undo, 2 Settle, 3 Back, 4 Forth, 5 Drop. -/
def doF (c : Int) (f : Fv) (d : Int) : Fv := if c = 0 then grantF f d else moveF f d (mvV c) (mvB c) (mvN c) (mvF c)
def doE (c : Int) (f : Fv) (d : Int) : Int := if c = 0 then grantE f d else moveE f d (mvV c) (mvB c) (mvN c) (mvF c)
set_option maxHeartbeats 1000000 in
theorem do_undo (a d : Int) (f : Fv) (W : World) (hf : Fok f) (hd : I64 d) (ha : 0 ≤ a) (hm : a % 6 = 1) :
    Calls Try.prog 9 #[.int .u8 a, .agg (fcs f), .int .i64 d] W fun r w' => r = .returned (.tuple #[.agg (fcs (moveF f d (-1) 0 0 (-1))), .int .i64 (moveE f d (-1) 0 0 (-1))]) ∧ Below W.heap.size W w' := by
  have HW := Lib.hid fun W => undo_any f d W hf hd
  generalize moveF f d (-1) 0 0 (-1) = g at *
  generalize moveE f d (-1) 0 0 (-1) = z at *
  have HA := Lib.hid (Fx.start W f)
  obtain ⟨X, hX⟩ : ∃ X, W.heap.size = X := ⟨_, rfl⟩
  have HHX := Lib.hid hX
  rw [hX] at HA
  obtain ⟨lo, hi, ba, inf, sup, va⟩ := f
  obtain ⟨a1, a2, a3, a4, a5, a6⟩ := g
  have HM := Lib.hid hm
  clear hf hd hm
  go_enter Try.func9, Try.ntmps9
  go_upto_region 2 with (fail)
  rw [HM.out]
  go_wp2_with fail
  clear hX
  refine (HW.out _).mono ?_
  rintro e1 w1 ⟨rfl, hb1⟩
  replace HA := Lib.hid (HA.out.later hb1)
  generalize X + 1 = R at *
  clear hb1 HW
  obtain ⟨r0, r1, r2, r3, r4, r5⟩ := fcells HA.out.r
  obtain ⟨f0, f1, f2, f3, f4, f5⟩ := ffree HA.out.r
  have HF := Lib.hid (fstored (a' := .int .i64 a1) (b' := .int .i64 a2) (c' := .int .i64 a3) (d' := .int .i64 a4) (e' := .int .i64 a5) (f' := .int .i64 a6) HA.out.r)
  have HG := Lib.hid (fkept HA.out.below HA.out.ord (.int .i64 a1) (.int .i64 a2) (.int .i64 a3) (.int .i64 a4) (.int .i64 a5) (.int .i64 a6))
  clear HA
  go_wp2_with fail
  refine bodyPost_ret (v := .tuple #[.agg #[.int .i64 a1, .int .i64 a2, .int .i64 a3, .int .i64 a4, .int .i64 a5, .int .i64 a6], .int .i64 z]) ?_ rfl ⟨rfl, HG.out⟩
  exact results_ff rfl _ _ R _ rfl _ rfl rfl HF.out
set_option maxHeartbeats 1000000 in
theorem do_settle (a d : Int) (f : Fv) (W : World) (hf : Fok f) (hd : I64 d) (ha : 0 ≤ a) (hm : a % 6 = 2) :
    Calls Try.prog 9 #[.int .u8 a, .agg (fcs f), .int .i64 d] W fun r w' => r = .returned (.tuple #[.agg (fcs (moveF f d 0 1 1 0)), .int .i64 (moveE f d 0 1 1 0)]) ∧ Below W.heap.size W w' := by
  have HW := Lib.hid fun W => settle_any f d W hf hd
  generalize moveF f d 0 1 1 0 = g at *
  generalize moveE f d 0 1 1 0 = z at *
  have HA := Lib.hid (Fx.start W f)
  obtain ⟨X, hX⟩ : ∃ X, W.heap.size = X := ⟨_, rfl⟩
  have HHX := Lib.hid hX
  rw [hX] at HA
  obtain ⟨lo, hi, ba, inf, sup, va⟩ := f
  obtain ⟨a1, a2, a3, a4, a5, a6⟩ := g
  have HM := Lib.hid hm
  clear hf hd hm
  go_enter Try.func9, Try.ntmps9
  go_upto_region 2 with (fail)
  rw [HM.out]
  go_wp2_with fail
  clear hX
  refine (HW.out _).mono ?_
  rintro e1 w1 ⟨rfl, hb1⟩
  replace HA := Lib.hid (HA.out.later hb1)
  generalize X + 1 = R at *
  clear hb1 HW
  obtain ⟨r0, r1, r2, r3, r4, r5⟩ := fcells HA.out.r
  obtain ⟨f0, f1, f2, f3, f4, f5⟩ := ffree HA.out.r
  have HF := Lib.hid (fstored (a' := .int .i64 a1) (b' := .int .i64 a2) (c' := .int .i64 a3) (d' := .int .i64 a4) (e' := .int .i64 a5) (f' := .int .i64 a6) HA.out.r)
  have HG := Lib.hid (fkept HA.out.below HA.out.ord (.int .i64 a1) (.int .i64 a2) (.int .i64 a3) (.int .i64 a4) (.int .i64 a5) (.int .i64 a6))
  clear HA
  go_wp2_with fail
  refine bodyPost_ret (v := .tuple #[.agg #[.int .i64 a1, .int .i64 a2, .int .i64 a3, .int .i64 a4, .int .i64 a5, .int .i64 a6], .int .i64 z]) ?_ rfl ⟨rfl, HG.out⟩
  exact results_ff rfl _ _ R _ rfl _ rfl rfl HF.out
set_option maxHeartbeats 1000000 in
theorem do_back (a d : Int) (f : Fv) (W : World) (hf : Fok f) (hd : I64 d) (ha : 0 ≤ a) (hm : a % 6 = 3) :
    Calls Try.prog 9 #[.int .u8 a, .agg (fcs f), .int .i64 d] W fun r w' => r = .returned (.tuple #[.agg (fcs (moveF f d (-1) 0 0 0)), .int .i64 (moveE f d (-1) 0 0 0)]) ∧ Below W.heap.size W w' := by
  have HW := Lib.hid fun W => back_any f d W hf hd
  generalize moveF f d (-1) 0 0 0 = g at *
  generalize moveE f d (-1) 0 0 0 = z at *
  have HA := Lib.hid (Fx.start W f)
  obtain ⟨X, hX⟩ : ∃ X, W.heap.size = X := ⟨_, rfl⟩
  have HHX := Lib.hid hX
  rw [hX] at HA
  obtain ⟨lo, hi, ba, inf, sup, va⟩ := f
  obtain ⟨a1, a2, a3, a4, a5, a6⟩ := g
  have HM := Lib.hid hm
  clear hf hd hm
  go_enter Try.func9, Try.ntmps9
  go_upto_region 2 with (fail)
  rw [HM.out]
  go_wp2_with fail
  clear hX
  refine (HW.out _).mono ?_
  rintro e1 w1 ⟨rfl, hb1⟩
  replace HA := Lib.hid (HA.out.later hb1)
  generalize X + 1 = R at *
  clear hb1 HW
  obtain ⟨r0, r1, r2, r3, r4, r5⟩ := fcells HA.out.r
  obtain ⟨f0, f1, f2, f3, f4, f5⟩ := ffree HA.out.r
  have HF := Lib.hid (fstored (a' := .int .i64 a1) (b' := .int .i64 a2) (c' := .int .i64 a3) (d' := .int .i64 a4) (e' := .int .i64 a5) (f' := .int .i64 a6) HA.out.r)
  have HG := Lib.hid (fkept HA.out.below HA.out.ord (.int .i64 a1) (.int .i64 a2) (.int .i64 a3) (.int .i64 a4) (.int .i64 a5) (.int .i64 a6))
  clear HA
  go_wp2_with fail
  refine bodyPost_ret (v := .tuple #[.agg #[.int .i64 a1, .int .i64 a2, .int .i64 a3, .int .i64 a4, .int .i64 a5, .int .i64 a6], .int .i64 z]) ?_ rfl ⟨rfl, HG.out⟩
  exact results_ff rfl _ _ R _ rfl _ rfl rfl HF.out
set_option maxHeartbeats 1000000 in
theorem do_forth (a d : Int) (f : Fv) (W : World) (hf : Fok f) (hd : I64 d) (ha : 0 ≤ a) (hm : a % 6 = 4) :
    Calls Try.prog 9 #[.int .u8 a, .agg (fcs f), .int .i64 d] W fun r w' => r = .returned (.tuple #[.agg (fcs (moveF f d 1 0 0 0)), .int .i64 (moveE f d 1 0 0 0)]) ∧ Below W.heap.size W w' := by
  have HW := Lib.hid fun W => forth_any f d W hf hd
  generalize moveF f d 1 0 0 0 = g at *
  generalize moveE f d 1 0 0 0 = z at *
  have HA := Lib.hid (Fx.start W f)
  obtain ⟨X, hX⟩ : ∃ X, W.heap.size = X := ⟨_, rfl⟩
  have HHX := Lib.hid hX
  rw [hX] at HA
  obtain ⟨lo, hi, ba, inf, sup, va⟩ := f
  obtain ⟨a1, a2, a3, a4, a5, a6⟩ := g
  have HM := Lib.hid hm
  clear hf hd hm
  go_enter Try.func9, Try.ntmps9
  go_upto_region 2 with (fail)
  rw [HM.out]
  go_wp2_with fail
  clear hX
  refine (HW.out _).mono ?_
  rintro e1 w1 ⟨rfl, hb1⟩
  replace HA := Lib.hid (HA.out.later hb1)
  generalize X + 1 = R at *
  clear hb1 HW
  obtain ⟨r0, r1, r2, r3, r4, r5⟩ := fcells HA.out.r
  obtain ⟨f0, f1, f2, f3, f4, f5⟩ := ffree HA.out.r
  have HF := Lib.hid (fstored (a' := .int .i64 a1) (b' := .int .i64 a2) (c' := .int .i64 a3) (d' := .int .i64 a4) (e' := .int .i64 a5) (f' := .int .i64 a6) HA.out.r)
  have HG := Lib.hid (fkept HA.out.below HA.out.ord (.int .i64 a1) (.int .i64 a2) (.int .i64 a3) (.int .i64 a4) (.int .i64 a5) (.int .i64 a6))
  clear HA
  go_wp2_with fail
  refine bodyPost_ret (v := .tuple #[.agg #[.int .i64 a1, .int .i64 a2, .int .i64 a3, .int .i64 a4, .int .i64 a5, .int .i64 a6], .int .i64 z]) ?_ rfl ⟨rfl, HG.out⟩
  exact results_ff rfl _ _ R _ rfl _ rfl rfl HF.out
set_option maxHeartbeats 1000000 in
theorem do_drop (a d : Int) (f : Fv) (W : World) (hf : Fok f) (hd : I64 d) (ha : 0 ≤ a) (hm : a % 6 = 5) :
    Calls Try.prog 9 #[.int .u8 a, .agg (fcs f), .int .i64 d] W fun r w' => r = .returned (.tuple #[.agg (fcs (moveF f d 0 0 0 (-1))), .int .i64 (moveE f d 0 0 0 (-1))]) ∧ Below W.heap.size W w' := by
  have HW := Lib.hid fun W => drop_any f d W hf hd
  generalize moveF f d 0 0 0 (-1) = g at *
  generalize moveE f d 0 0 0 (-1) = z at *
  have HA := Lib.hid (Fx.start W f)
  obtain ⟨X, hX⟩ : ∃ X, W.heap.size = X := ⟨_, rfl⟩
  have HHX := Lib.hid hX
  rw [hX] at HA
  obtain ⟨lo, hi, ba, inf, sup, va⟩ := f
  obtain ⟨a1, a2, a3, a4, a5, a6⟩ := g
  have HM := Lib.hid hm
  clear hf hd hm
  go_enter Try.func9, Try.ntmps9
  go_upto_region 2 with (fail)
  rw [HM.out]
  go_wp2_with fail
  clear hX
  refine (HW.out _).mono ?_
  rintro e1 w1 ⟨rfl, hb1⟩
  replace HA := Lib.hid (HA.out.later hb1)
  generalize X + 1 = R at *
  clear hb1 HW
  obtain ⟨r0, r1, r2, r3, r4, r5⟩ := fcells HA.out.r
  obtain ⟨f0, f1, f2, f3, f4, f5⟩ := ffree HA.out.r
  have HF := Lib.hid (fstored (a' := .int .i64 a1) (b' := .int .i64 a2) (c' := .int .i64 a3) (d' := .int .i64 a4) (e' := .int .i64 a5) (f' := .int .i64 a6) HA.out.r)
  have HG := Lib.hid (fkept HA.out.below HA.out.ord (.int .i64 a1) (.int .i64 a2) (.int .i64 a3) (.int .i64 a4) (.int .i64 a5) (.int .i64 a6))
  clear HA
  go_wp2_with fail
  refine bodyPost_ret (v := .tuple #[.agg #[.int .i64 a1, .int .i64 a2, .int .i64 a3, .int .i64 a4, .int .i64 a5, .int .i64 a6], .int .i64 z]) ?_ rfl ⟨rfl, HG.out⟩
  exact results_ff rfl _ _ R _ rfl _ rfl rfl HF.out
set_option maxHeartbeats 1000000 in
theorem do_grant (a d : Int) (f : Fv) (W : World) (hf : Fok f) (hd : I64 d) (ha : 0 ≤ a) (hm : a % 6 = 0) :
    Calls Try.prog 9 #[.int .u8 a, .agg (fcs f), .int .i64 d] W fun r w' => r = .returned (.tuple #[.agg (fcs (grantF f d)), .int .i64 (grantE f d)]) ∧ Below W.heap.size W w' := by
  have HW := Lib.hid fun W => grant_any f d W hf hd
  generalize grantF f d = g at *
  generalize grantE f d = z at *
  have HA := Lib.hid (Fx.start W f)
  obtain ⟨X, hX⟩ : ∃ X, W.heap.size = X := ⟨_, rfl⟩
  have HHX := Lib.hid hX
  rw [hX] at HA
  obtain ⟨lo, hi, ba, inf, sup, va⟩ := f
  obtain ⟨a1, a2, a3, a4, a5, a6⟩ := g
  have HM := Lib.hid hm
  clear hf hd hm
  go_enter Try.func9, Try.ntmps9
  go_upto_region 2 with (fail)
  rw [HM.out]
  go_wp2_with fail
  clear hX
  refine (HW.out _).mono ?_
  rintro e1 w1 ⟨rfl, hb1⟩
  replace HA := Lib.hid (HA.out.later hb1)
  generalize X + 1 = R at *
  clear hb1 HW
  obtain ⟨r0, r1, r2, r3, r4, r5⟩ := fcells HA.out.r
  obtain ⟨f0, f1, f2, f3, f4, f5⟩ := ffree HA.out.r
  have HF := Lib.hid (fstored (a' := .int .i64 a1) (b' := .int .i64 a2) (c' := .int .i64 a3) (d' := .int .i64 a4) (e' := .int .i64 a5) (f' := .int .i64 a6) HA.out.r)
  have HG := Lib.hid (fkept HA.out.below HA.out.ord (.int .i64 a1) (.int .i64 a2) (.int .i64 a3) (.int .i64 a4) (.int .i64 a5) (.int .i64 a6))
  clear HA
  go_wp2_with fail
  refine bodyPost_ret (v := .tuple #[.agg #[.int .i64 a1, .int .i64 a2, .int .i64 a3, .int .i64 a4, .int .i64 a5, .int .i64 a6], .int .i64 z]) ?_ rfl ⟨rfl, HG.out⟩
  exact results_ff rfl _ _ R _ rfl _ rfl rfl HF.out
theorem do_any (a d : Int) (f : Fv) (W : World) (ha : 0 ≤ a) (hf : Fok f) (hd : I64 d) :
    Calls Try.prog 9 #[.int .u8 a, .agg (fcs f), .int .i64 d] W fun r w' => r = .returned (.tuple #[.agg (fcs (doF (a % 6) f d)), .int .i64 (doE (a % 6) f d)]) ∧ Below W.heap.size W w' := by
  have hc : a % 6 = 0 ∨ a % 6 = 1 ∨ a % 6 = 2 ∨ a % 6 = 3 ∨ a % 6 = 4 ∨ a % 6 = 5 := by omega
  rcases hc with h | h | h | h | h | h
  · have := do_grant a d f W hf hd ha h
    rw [h]; exact this
  · have := do_undo a d f W hf hd ha h
    rw [h]; exact this
  · have := do_settle a d f W hf hd ha h
    rw [h]; exact this
  · have := do_back a d f W hf hd ha h
    rw [h]; exact this
  · have := do_forth a d f W hf hd ha h
    rw [h]; exact this
  · have := do_drop a d f W hf hd ha h
    rw [h]; exact this
theorem doF_zero (f : Fv) (d : Int) : doF 0 f d = grantF f d ∧ doE 0 f d = grantE f d := ⟨rfl, rfl⟩
/-- What a call leaves. -/
theorem do_good {c d : Int} {f : Fv} (hf : Fok f) : (goodF f = true → goodF (doF c f d) = true) ∧ (doE c f d ≠ 0 → doF c f d = f) ∧ (doE c f d = 0 → goodF f = true) := by
  have mv : ∀ mv mb mn mf, (goodF f = true → goodF (moveF f d mv mb mn mf) = true) ∧ (moveE f d mv mb mn mf ≠ 0 → moveF f d mv mb mn mf = f) ∧ (moveE f d mv mb mn mf = 0 → goodF f = true) := by
    intro mv mb mn mf
    unfold moveF moveE
    refine ⟨fun hg => ?_, fun he => ?_, fun he => ?_⟩
    · split
      · rename_i h; exact h.2.2
      · exact hg
    · split at he
      · rename_i h0; exact if_neg (fun h => h0 h.1)
      · split at he
        · exact absurd rfl he
        · rename_i h; exact if_neg (fun h' => h h'.2)
    · split at he
      · rename_i h0; exact absurd he h0
      · rename_i h0; exact (firstF_zero (Decidable.not_not.1 h0)).1
  have gr : (goodF f = true → goodF (grantF f d) = true) ∧ (grantE f d ≠ 0 → grantF f d = f) ∧ (grantE f d = 0 → goodF f = true) := by
    refine ⟨fun hg => ?_, fun he => grantF_bad he, fun he => (firstF_zero (grant_zero he).1).1⟩
    by_cases he : grantE f d = 0
    · rw [grantF_ok he]; exact (grant_good hf he).1
    · rw [grantF_bad he]; exact hg
  unfold doF doE
  by_cases hc : c = 0
  · rw [if_pos hc, if_pos hc]; exact gr
  · rw [if_neg hc, if_neg hc]; exact mv _ _ _ _
end Go.Proofs.Ytgjfgabagfhnoaa
