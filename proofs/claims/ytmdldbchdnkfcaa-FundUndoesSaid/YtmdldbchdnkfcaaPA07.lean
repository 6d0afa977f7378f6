import Derived.Test.YtmdldbchdnkfcaaPA06
namespace Go.Proofs.Ytmdldbchdnkfcaa
open Go.RowKit Go.ChangeShapes Go.WideShapes
set_option linter.unusedVariables false
set_option linter.unusedSimpArgs false
set_option maxRecDepth 10000
structure Fx (W w : World) (X R : Nat) (f : Fv) : Prop where
 x : w.heap[X]? = some (.cells (fcs f) 42 (0, 0))
 r : w.heap[R]? = some (.cells #[.int .i64 0, .int .i64 0, .int .i64 0, .int .i64 0, .int .i64 0, .int .i64 0] 42 (0, 0))
 below : Below W.heap.size W w
 ord : W.heap.size ≤ R
theorem Fx.later {W w w' : World} {X R : Nat} {f : Fv} (h : Fx W w X R f) (hb : Below w.heap.size w w') : Fx W w' X R f :=
 ⟨block_later h.x hb, block_later h.r hb, h.below.trans (hb.mono h.below.size), h.ord⟩
theorem Fx.start (W : World) (f : Fv) : Fx W ((W.alloc (.cells (fcs f) 42)).alloc (.cells #[.int .i64 0, .int .i64 0, .int .i64 0, .int .i64 0, .int .i64 0, .int .i64 0] 42)) W.heap.size (W.heap.size + 1) f := by
 have s1 : (W.alloc (.cells (fcs f) 42)).heap.size = W.heap.size + 1 := by simp
 have h0 := alloc_block W (.cells (fcs f) 42)
 have h1 := alloc_block (W.alloc (.cells (fcs f) 42)) (.cells #[.int .i64 0, .int .i64 0, .int .i64 0, .int .i64 0, .int .i64 0, .int .i64 0] 42)
 rw [s1] at h1
 have b1 : Below (W.alloc (.cells (fcs f) 42)).heap.size (W.alloc (.cells (fcs f) 42)) ((W.alloc (.cells (fcs f) 42)).alloc (.cells #[.int .i64 0, .int .i64 0, .int .i64 0, .int .i64 0, .int .i64 0, .int .i64 0] 42)) := (Below.refl _ _).alloc (Nat.le_refl _) _
 exact ⟨block_later h0 b1, h1, ((Below.refl _ _).alloc (Nat.le_refl _) _).alloc (by omega) _, by omega⟩
theorem grant_move {f : Fv} {d : Int} (hf : Fok f) (h : grantE f d = 0) : moveE f d 1 0 0 1 = 0 ∧ moveF f d 1 0 0 1 = grantG f d := by
 obtain ⟨h0, h1, h2⟩ := grant_zero h
 obtain ⟨gg, gk⟩ := grant_good hf h
 have u1 : moveG f d 1 0 0 1 = grantG f d := by
  unfold moveG grantG
  by_cases hp : 0 < d
  · rw [if_pos hp, if_pos hp]
    exact fv_ext rfl rfl (by show f.ba + 0 * d = f.ba; omega) (by show f.inf + 0 * d = f.inf; omega) (by show f.sup + 1 * d = f.sup + d; omega) (by show f.va + 1 * d = f.va + d; omega)
  · rw [if_neg hp, if_neg hp]
    exact fv_ext rfl rfl (by show f.ba + 0 * d = f.ba; omega) (by show f.inf + 1 * d = f.inf + d; omega) (by show f.sup + 0 * d = f.sup; omega) (by show f.va + 1 * d = f.va + d; omega)
 have m := move_ok h0 (by rw [u1]; exact gk) (by rw [u1]; exact gg)
 rw [u1] at m
 exact m
theorem fundo_any (f : Fv) (d : Int) (W : World) (hf : Fok f) (hd : I64 d) :
 Calls Try.prog 45 #[.agg (fcs f), .int .i64 d] W fun r w' => r = .returned (.tuple #[.agg (fcs (moveF f d (-1) 0 0 (-1))), .int .i64 (moveE f d (-1) 0 0 (-1))]) ∧ Below W.heap.size W w' := by
 have HW := Lib.hid fun W => apply_any f d 0 (-1) (-1) 0 _ _ _ _ W hf hd .stay .less .less .stay
 generalize moveF f d (-1) 0 0 (-1) = g at *
 generalize moveE f d (-1) 0 0 (-1) = z at *
 have HA := Lib.hid (Fx.start W f)
 obtain ⟨X, hX⟩ : ∃ X, W.heap.size = X := ⟨_, rfl⟩
 have HHX := Lib.hid hX
 rw [hX] at HA
 obtain ⟨lo, hi, ba, inf, sup, va⟩ := f
 obtain ⟨a1, a2, a3, a4, a5, a6⟩ := g
 clear hf hd
 go_enter Try.func45, Try.ntmps45
 go_wp2_with fail
 clear hX
 refine (HW.out _).mono ?_
 rintro e1 w1 ⟨rfl, hb1⟩
 replace HA := Lib.hid (HA.out.later hb1)
 generalize X + 1 = R at *
 clear hb1 HW
 obtain ⟨r0, r1, r2, r3, r4, r5⟩ := fcells HA.out.r
 obtain ⟨f0, f1, f2, f3, f4, f5⟩ := ffree HA.out.r
 have HF := Lib.hid (fstored (a' := .int .i64 a1) (b' := .int .i64 a2) (c' := .int .i64 a3) (d' := .int .i64 a4) (e' := .int .i64 a5) (f' := .int .i64 a6) HA.out.r)
 have HG := Lib.hid (fkept HA.out.below HA.out.ord (.int .i64 a1) (.int .i64 a2) (.int .i64 a3) (.int .i64 a4) (.int .i64 a5) (.int .i64 a6))
 clear HA
 go_wp2_with fail
 refine bodyPost_ret (v := .tuple #[.agg #[.int .i64 a1, .int .i64 a2, .int .i64 a3, .int .i64 a4, .int .i64 a5, .int .i64 a6], .int .i64 z]) ?_ rfl ⟨rfl, HG.out⟩
 exact results_ff rfl _ _ R _ rfl _ rfl rfl HF.out
theorem settle_any (f : Fv) (d : Int) (W : World) (hf : Fok f) (hd : I64 d) :
 Calls Try.prog 53 #[.agg (fcs f), .int .i64 d] W fun r w' => r = .returned (.tuple #[.agg (fcs (moveF f d 0 1 1 0)), .int .i64 (moveE f d 0 1 1 0)]) ∧ Below W.heap.size W w' := by
 have HW := Lib.hid fun W => apply_any f d 1 0 0 1 _ _ _ _ W hf hd .more .stay .stay .more
 generalize moveF f d 0 1 1 0 = g at *
 generalize moveE f d 0 1 1 0 = z at *
 have HA := Lib.hid (Fx.start W f)
 obtain ⟨X, hX⟩ : ∃ X, W.heap.size = X := ⟨_, rfl⟩
 have HHX := Lib.hid hX
 rw [hX] at HA
 obtain ⟨lo, hi, ba, inf, sup, va⟩ := f
 obtain ⟨a1, a2, a3, a4, a5, a6⟩ := g
 clear hf hd
 go_enter Try.func53, Try.ntmps53
 go_wp2_with fail
 clear hX
 refine (HW.out _).mono ?_
 rintro e1 w1 ⟨rfl, hb1⟩
 replace HA := Lib.hid (HA.out.later hb1)
 generalize X + 1 = R at *
 clear hb1 HW
 obtain ⟨r0, r1, r2, r3, r4, r5⟩ := fcells HA.out.r
 obtain ⟨f0, f1, f2, f3, f4, f5⟩ := ffree HA.out.r
 have HF := Lib.hid (fstored (a' := .int .i64 a1) (b' := .int .i64 a2) (c' := .int .i64 a3) (d' := .int .i64 a4) (e' := .int .i64 a5) (f' := .int .i64 a6) HA.out.r)
 have HG := Lib.hid (fkept HA.out.below HA.out.ord (.int .i64 a1) (.int .i64 a2) (.int .i64 a3) (.int .i64 a4) (.int .i64 a5) (.int .i64 a6))
 clear HA
 go_wp2_with fail
 refine bodyPost_ret (v := .tuple #[.agg #[.int .i64 a1, .int .i64 a2, .int .i64 a3, .int .i64 a4, .int .i64 a5, .int .i64 a6], .int .i64 z]) ?_ rfl ⟨rfl, HG.out⟩
 exact results_ff rfl _ _ R _ rfl _ rfl rfl HF.out
theorem back_any (f : Fv) (d : Int) (W : World) (hf : Fok f) (hd : I64 d) :
 Calls Try.prog 55 #[.agg (fcs f), .int .i64 d] W fun r w' => r = .returned (.tuple #[.agg (fcs (moveF f d (-1) 0 0 0)), .int .i64 (moveE f d (-1) 0 0 0)]) ∧ Below W.heap.size W w' := by
 have HW := Lib.hid fun W => apply_any f d 0 (-1) 0 0 _ _ _ _ W hf hd .stay .less .stay .stay
 generalize moveF f d (-1) 0 0 0 = g at *
 generalize moveE f d (-1) 0 0 0 = z at *
 have HA := Lib.hid (Fx.start W f)
 obtain ⟨X, hX⟩ : ∃ X, W.heap.size = X := ⟨_, rfl⟩
 have HHX := Lib.hid hX
 rw [hX] at HA
 obtain ⟨lo, hi, ba, inf, sup, va⟩ := f
 obtain ⟨a1, a2, a3, a4, a5, a6⟩ := g
 clear hf hd
 go_enter Try.func55, Try.ntmps55
 go_wp2_with fail
 clear hX
 refine (HW.out _).mono ?_
 rintro e1 w1 ⟨rfl, hb1⟩
 replace HA := Lib.hid (HA.out.later hb1)
 generalize X + 1 = R at *
 clear hb1 HW
 obtain ⟨r0, r1, r2, r3, r4, r5⟩ := fcells HA.out.r
 obtain ⟨f0, f1, f2, f3, f4, f5⟩ := ffree HA.out.r
 have HF := Lib.hid (fstored (a' := .int .i64 a1) (b' := .int .i64 a2) (c' := .int .i64 a3) (d' := .int .i64 a4) (e' := .int .i64 a5) (f' := .int .i64 a6) HA.out.r)
 have HG := Lib.hid (fkept HA.out.below HA.out.ord (.int .i64 a1) (.int .i64 a2) (.int .i64 a3) (.int .i64 a4) (.int .i64 a5) (.int .i64 a6))
 clear HA
 go_wp2_with fail
 refine bodyPost_ret (v := .tuple #[.agg #[.int .i64 a1, .int .i64 a2, .int .i64 a3, .int .i64 a4, .int .i64 a5, .int .i64 a6], .int .i64 z]) ?_ rfl ⟨rfl, HG.out⟩
 exact results_ff rfl _ _ R _ rfl _ rfl rfl HF.out
theorem forth_any (f : Fv) (d : Int) (W : World) (hf : Fok f) (hd : I64 d) :
 Calls Try.prog 57 #[.agg (fcs f), .int .i64 d] W fun r w' => r = .returned (.tuple #[.agg (fcs (moveF f d 1 0 0 0)), .int .i64 (moveE f d 1 0 0 0)]) ∧ Below W.heap.size W w' := by
 have HW := Lib.hid fun W => apply_any f d 0 1 0 0 _ _ _ _ W hf hd .stay .more .stay .stay
 generalize moveF f d 1 0 0 0 = g at *
 generalize moveE f d 1 0 0 0 = z at *
 have HA := Lib.hid (Fx.start W f)
 obtain ⟨X, hX⟩ : ∃ X, W.heap.size = X := ⟨_, rfl⟩
 have HHX := Lib.hid hX
 rw [hX] at HA
 obtain ⟨lo, hi, ba, inf, sup, va⟩ := f
 obtain ⟨a1, a2, a3, a4, a5, a6⟩ := g
 clear hf hd
 go_enter Try.func57, Try.ntmps57
 go_wp2_with fail
 clear hX
 refine (HW.out _).mono ?_
 rintro e1 w1 ⟨rfl, hb1⟩
 replace HA := Lib.hid (HA.out.later hb1)
 generalize X + 1 = R at *
 clear hb1 HW
 obtain ⟨r0, r1, r2, r3, r4, r5⟩ := fcells HA.out.r
 obtain ⟨f0, f1, f2, f3, f4, f5⟩ := ffree HA.out.r
 have HF := Lib.hid (fstored (a' := .int .i64 a1) (b' := .int .i64 a2) (c' := .int .i64 a3) (d' := .int .i64 a4) (e' := .int .i64 a5) (f' := .int .i64 a6) HA.out.r)
 have HG := Lib.hid (fkept HA.out.below HA.out.ord (.int .i64 a1) (.int .i64 a2) (.int .i64 a3) (.int .i64 a4) (.int .i64 a5) (.int .i64 a6))
 clear HA
 go_wp2_with fail
 refine bodyPost_ret (v := .tuple #[.agg #[.int .i64 a1, .int .i64 a2, .int .i64 a3, .int .i64 a4, .int .i64 a5, .int .i64 a6], .int .i64 z]) ?_ rfl ⟨rfl, HG.out⟩
 exact results_ff rfl _ _ R _ rfl _ rfl rfl HF.out
theorem drop_any (f : Fv) (d : Int) (W : World) (hf : Fok f) (hd : I64 d) :
 Calls Try.prog 59 #[.agg (fcs f), .int .i64 d] W fun r w' => r = .returned (.tuple #[.agg (fcs (moveF f d 0 0 0 (-1))), .int .i64 (moveE f d 0 0 0 (-1))]) ∧ Below W.heap.size W w' := by
 have HW := Lib.hid fun W => apply_any f d 0 0 (-1) 0 _ _ _ _ W hf hd .stay .stay .less .stay
 generalize moveF f d 0 0 0 (-1) = g at *
 generalize moveE f d 0 0 0 (-1) = z at *
 have HA := Lib.hid (Fx.start W f)
 obtain ⟨X, hX⟩ : ∃ X, W.heap.size = X := ⟨_, rfl⟩
 have HHX := Lib.hid hX
 rw [hX] at HA
 obtain ⟨lo, hi, ba, inf, sup, va⟩ := f
 obtain ⟨a1, a2, a3, a4, a5, a6⟩ := g
 clear hf hd
 go_enter Try.func59, Try.ntmps59
 go_wp2_with fail
 clear hX
 refine (HW.out _).mono ?_
 rintro e1 w1 ⟨rfl, hb1⟩
 replace HA := Lib.hid (HA.out.later hb1)
 generalize X + 1 = R at *
 clear hb1 HW
 obtain ⟨r0, r1, r2, r3, r4, r5⟩ := fcells HA.out.r
 obtain ⟨f0, f1, f2, f3, f4, f5⟩ := ffree HA.out.r
 have HF := Lib.hid (fstored (a' := .int .i64 a1) (b' := .int .i64 a2) (c' := .int .i64 a3) (d' := .int .i64 a4) (e' := .int .i64 a5) (f' := .int .i64 a6) HA.out.r)
 have HG := Lib.hid (fkept HA.out.below HA.out.ord (.int .i64 a1) (.int .i64 a2) (.int .i64 a3) (.int .i64 a4) (.int .i64 a5) (.int .i64 a6))
 clear HA
 go_wp2_with fail
 refine bodyPost_ret (v := .tuple #[.agg #[.int .i64 a1, .int .i64 a2, .int .i64 a3, .int .i64 a4, .int .i64 a5, .int .i64 a6], .int .i64 z]) ?_ rfl ⟨rfl, HG.out⟩
 exact results_ff rfl _ _ R _ rfl _ rfl rfl HF.out
set_option maxHeartbeats 1000000 in
theorem grant_first (f : Fv) (d : Int) (W : World) (hf : Fok f) (hd : I64 d) (h0 : firstF f d ≠ 0) :
 Calls Try.prog 43 #[.agg (fcs f), .int .i64 d] W fun r w' => r = .returned (.tuple #[.agg (fcs (grantF f d)), .int .i64 (grantE f d)]) ∧ Below W.heap.size W w' := by
 rw [show grantF f d = f from if_neg (by unfold grantE; rw [if_pos h0]; exact h0), show grantE f d = firstF f d from if_pos h0]
 have HW := Lib.hid fun W => wrong_any f d W hd
 have z1 : (firstF f d != 0) = true := by simpa using h0
 have H0 := Lib.hid h0
 clear h0
 generalize firstF f d = z at *
 have HA := Lib.hid (Fx.start W f)
 obtain ⟨X, hX⟩ : ∃ X, W.heap.size = X := ⟨_, rfl⟩
 have HHX := Lib.hid hX
 rw [hX] at HA
 obtain ⟨lo, hi, ba, inf, sup, va⟩ := f
 clear hf hd
 go_enter Try.func43, Try.ntmps43
 go_wp2_with fail
 clear hX
 refine (HW.out _).mono ?_
 rintro e1 w1 ⟨rfl, hb1⟩
 replace HA := Lib.hid (HA.out.later hb1)
 generalize X + 1 = R at *
 clear hb1 HW
 obtain ⟨q0, q1, q2, q3, q4, q5⟩ := fcells HA.out.x
 obtain ⟨r0, r1, r2, r3, r4, r5⟩ := fcells HA.out.r
 obtain ⟨f0, f1, f2, f3, f4, f5⟩ := ffree HA.out.r
 have HF := Lib.hid (fstored (a' := .int .i64 lo) (b' := .int .i64 hi) (c' := .int .i64 ba) (d' := .int .i64 inf) (e' := .int .i64 sup) (f' := .int .i64 va) HA.out.r)
 have HG := Lib.hid (fkept HA.out.below HA.out.ord (.int .i64 lo) (.int .i64 hi) (.int .i64 ba) (.int .i64 inf) (.int .i64 sup) (.int .i64 va))
 clear HA
 go_wp2_with fail
 refine bodyPost_ret (v := .tuple #[.agg #[.int .i64 lo, .int .i64 hi, .int .i64 ba, .int .i64 inf, .int .i64 sup, .int .i64 va], .int .i64 z]) ?_ rfl ⟨rfl, HG.out⟩
 exact results_ff rfl _ _ R _ rfl _ rfl rfl HF.out
set_option maxHeartbeats 1000000 in
theorem grant_up (f : Fv) (d : Int) (W : World) (hf : Fok f) (hd : I64 d) (h0 : firstF f d = 0) (hp : 0 < d) :
 Calls Try.prog 43 #[.agg (fcs f), .int .i64 d] W fun r w' => r = .returned (.tuple #[.agg (fcs (grantF f d)), .int .i64 (grantE f d)]) ∧ Below W.heap.size W w' := by
 have HW := Lib.hid fun W => wrong_any f d W hd
 rw [h0] at HW
 have HOW : Hid (ownJ d = 4 ∧ farJ d = 3) := Lib.hid ⟨if_pos hp, if_pos hp⟩
 have HV := Lib.hid fun W => apply_any f d 0 1 1 0 _ _ _ _ W hf hd .stay .more .more .stay
 have HE : Hid (grantE f d = if I64 (f.sup + d) then (if f.sup + d ≤ f.hi then 0 else 3) else 2) := Lib.hid (by unfold grantE; rw [if_neg (by omega), if_pos hp])
 have HM := Lib.hid (fun h => grant_move (f := f) (d := d) hf h)
 have HGF : Hid (grantF f d = if grantE f d = 0 then grantG f d else f) := Lib.hid rfl
 have HGK := Lib.hid (fun h => grant_good (f := f) (d := d) hf h)
 have HAD := Lib.hid fun W => add_any f.sup d W hf.2.2.2.2.1.1 hf.2.2.2.2.1.2 hd.1 hd.2
 have hgd := (goodF_iff f).1 (firstF_zero h0).1
 have HHF := Lib.hid hf
 have HHD := Lib.hid hd
 have HHP := Lib.hid hp
 have hne := (firstF_zero h0).2.1
 have HNE := Lib.hid hne
 generalize grantF f d = GF at *
 generalize grantE f d = GE at *
 generalize grantG f d = GG at *
 generalize moveF f d 1 0 0 1 = MF at *
 generalize moveE f d 1 0 0 1 = ME at *
 have HA := Lib.hid (Fx.start W f)
 obtain ⟨X, hX⟩ : ∃ X, W.heap.size = X := ⟨_, rfl⟩
 have HHX := Lib.hid hX
 rw [hX] at HA
 obtain ⟨lo, hi, ba, inf, sup, va⟩ := f
 have HGD := Lib.hid hgd
 replace HE : Hid (GE = if I64 (sup + d) then (if sup + d ≤ hi then 0 else 3) else 2) := HE
 clear hf hd h0 hp hgd hne
 go_enter Try.func43, Try.ntmps43
 go_wp2_with fail
 clear hX
 refine (HW.out _).mono ?_
 rintro e1 w1 ⟨rfl, hb1⟩
 replace HA := Lib.hid (HA.out.later hb1)
 generalize X + 1 = R at *
 clear hb1 HW
 go_wp2_with fail
 refine (sides_any X d w1).mono ?_
 rintro e1 w2 ⟨rfl, hb1⟩
 rw [HOW.out.1, HOW.out.2]
 replace HA := Lib.hid (HA.out.later hb1)
 clear hb1
 have qq := block_cell (j := 4) HA.out.x (v := .int .i64 sup) rfl
 go_wp2_with fail
 clear qq
 refine (HAD.out _).mono ?_
 rintro e1 w3 ⟨rfl, rfl⟩
 simp only []
 have HSM : Hid (∀ n : Int, n = sup + d → GE = if I64 n then (if n ≤ hi then 0 else 3) else 2) := Lib.hid (by intro n hn; subst hn; exact HE.out)
 have HEN : Hid (∀ n : Int, n = sup + d → n = sup + d) := Lib.hid fun n h => h
 obtain ⟨n, hn⟩ : ∃ n, sup + d = n := ⟨_, rfl⟩
 replace HSM := Lib.hid (HSM.out n hn.symm)
 have HN := Lib.hid hn
 clear HE HEN
 rw [hn]
 clear hn
 by_cases g1 : I64 n
 rotate_left
 · rw [okB_out n g1, val_out n g1]
   have he : GE = 2 := HSM.out.trans (if_neg g1)
   have hf : GF = ⟨lo, hi, ba, inf, sup, va⟩ := HGF.out.trans (if_neg (by rw [he]; decide))
   subst he hf
   clear HSM HGF HM HGK g1
   obtain ⟨q0, q1, q2, q3, q4, q5⟩ := fcells HA.out.x
   obtain ⟨r0, r1, r2, r3, r4, r5⟩ := fcells HA.out.r
   obtain ⟨f0, f1, f2, f3, f4, f5⟩ := ffree HA.out.r
   have HF := Lib.hid (fstored (a' := .int .i64 lo) (b' := .int .i64 hi) (c' := .int .i64 ba) (d' := .int .i64 inf) (e' := .int .i64 sup) (f' := .int .i64 va) HA.out.r)
   have HG := Lib.hid (fkept HA.out.below HA.out.ord (.int .i64 lo) (.int .i64 hi) (.int .i64 ba) (.int .i64 inf) (.int .i64 sup) (.int .i64 va))
   clear HA
   go_wp2_with fail
   refine bodyPost_ret (v := .tuple #[.agg #[.int .i64 lo, .int .i64 hi, .int .i64 ba, .int .i64 inf, .int .i64 sup, .int .i64 va], .int .i64 2]) ?_ rfl ⟨rfl, HG.out⟩
   exact results_ff rfl _ _ R _ rfl _ rfl rfl HF.out
 rw [okB_in n g1, val_in n g1]
 obtain ⟨q0, q1, q2, q3, q4, q5⟩ := fcells HA.out.x
 by_cases g2 : n ≤ hi
 rotate_left
 · have he : GE = 3 := HSM.out.trans ((if_pos g1).trans (if_neg g2))
   have hf : GF = ⟨lo, hi, ba, inf, sup, va⟩ := HGF.out.trans (if_neg (by rw [he]; decide))
   subst he hf
   have t1 : ¬ n < lo := by have := HGD.out; have := HN.out; have := HHP.out; simp only [] at *; omega
   have t2 : hi < n := by omega
   clear HSM HGF HM HGK g1 g2
   obtain ⟨r0, r1, r2, r3, r4, r5⟩ := fcells HA.out.r
   obtain ⟨f0, f1, f2, f3, f4, f5⟩ := ffree HA.out.r
   have HF := Lib.hid (fstored (a' := .int .i64 lo) (b' := .int .i64 hi) (c' := .int .i64 ba) (d' := .int .i64 inf) (e' := .int .i64 sup) (f' := .int .i64 va) HA.out.r)
   have HG := Lib.hid (fkept HA.out.below HA.out.ord (.int .i64 lo) (.int .i64 hi) (.int .i64 ba) (.int .i64 inf) (.int .i64 sup) (.int .i64 va))
   clear HA
   go_wp2_with fail
   refine bodyPost_ret (v := .tuple #[.agg #[.int .i64 lo, .int .i64 hi, .int .i64 ba, .int .i64 inf, .int .i64 sup, .int .i64 va], .int .i64 3]) ?_ rfl ⟨rfl, HG.out⟩
   exact results_ff rfl _ _ R _ rfl _ rfl rfl HF.out
 have t1 : ¬ n < lo := by have := HGD.out; have := HN.out; have := HHP.out; simp only [] at *; omega
 have t2 : ¬ hi < n := by have := HGD.out; have := HN.out; have := HHP.out; simp only [] at *; omega
 have he : GE = 0 := HSM.out.trans ((if_pos g1).trans (if_pos g2))
 have hf : GF = GG := HGF.out.trans (if_pos he)
 obtain ⟨hm1, hm2⟩ := HM.out he
 subst hm1 hm2 he hf
 clear HSM HGF HM HGK g1 g2
 go_wp2_with fail
 clear q0 q1 q2 q3 q4 q5
 obtain ⟨a1, a2, a3, a4, a5, a6⟩ := GF
 refine (HV.out _).mono ?_
 rintro e1 w4 ⟨rfl, hb1⟩
 replace HA := Lib.hid (HA.out.later hb1)
 clear hb1 HV
 obtain ⟨r0, r1, r2, r3, r4, r5⟩ := fcells HA.out.r
 obtain ⟨f0, f1, f2, f3, f4, f5⟩ := ffree HA.out.r
 have HF := Lib.hid (fstored (a' := .int .i64 a1) (b' := .int .i64 a2) (c' := .int .i64 a3) (d' := .int .i64 a4) (e' := .int .i64 a5) (f' := .int .i64 a6) HA.out.r)
 have HG := Lib.hid (fkept HA.out.below HA.out.ord (.int .i64 a1) (.int .i64 a2) (.int .i64 a3) (.int .i64 a4) (.int .i64 a5) (.int .i64 a6))
 clear HA
 go_wp2_with fail
 refine bodyPost_ret (v := .tuple #[.agg #[.int .i64 a1, .int .i64 a2, .int .i64 a3, .int .i64 a4, .int .i64 a5, .int .i64 a6], .int .i64 0]) ?_ rfl ⟨rfl, HG.out⟩
 exact results_ff rfl _ _ R _ rfl _ rfl rfl HF.out
set_option maxHeartbeats 1000000 in
theorem grant_down (f : Fv) (d : Int) (W : World) (hf : Fok f) (hd : I64 d) (h0 : firstF f d = 0) (hp : ¬ 0 < d) :
 Calls Try.prog 43 #[.agg (fcs f), .int .i64 d] W fun r w' => r = .returned (.tuple #[.agg (fcs (grantF f d)), .int .i64 (grantE f d)]) ∧ Below W.heap.size W w' := by
 have HW := Lib.hid fun W => wrong_any f d W hd
 rw [h0] at HW
 have HOW : Hid (ownJ d = 3 ∧ farJ d = 4) := Lib.hid ⟨if_neg hp, if_neg hp⟩
 have HV := Lib.hid fun W => apply_any f d 0 1 1 0 _ _ _ _ W hf hd .stay .more .more .stay
 have HE : Hid (grantE f d = if I64 (f.inf + d) then (if f.lo ≤ f.inf + d then 0 else 3) else 2) := Lib.hid (by unfold grantE; rw [if_neg (by omega), if_neg hp])
 have HM := Lib.hid (fun h => grant_move (f := f) (d := d) hf h)
 have HGF : Hid (grantF f d = if grantE f d = 0 then grantG f d else f) := Lib.hid rfl
 have HGK := Lib.hid (fun h => grant_good (f := f) (d := d) hf h)
 have HAD := Lib.hid fun W => add_any f.inf d W hf.2.2.2.1.1 hf.2.2.2.1.2 hd.1 hd.2
 have hgd := (goodF_iff f).1 (firstF_zero h0).1
 have HHF := Lib.hid hf
 have HHD := Lib.hid hd
 have HHP := Lib.hid hp
 have hne := (firstF_zero h0).2.1
 have HNE := Lib.hid hne
 generalize grantF f d = GF at *
 generalize grantE f d = GE at *
 generalize grantG f d = GG at *
 generalize moveF f d 1 0 0 1 = MF at *
 generalize moveE f d 1 0 0 1 = ME at *
 have HA := Lib.hid (Fx.start W f)
 obtain ⟨X, hX⟩ : ∃ X, W.heap.size = X := ⟨_, rfl⟩
 have HHX := Lib.hid hX
 rw [hX] at HA
 obtain ⟨lo, hi, ba, inf, sup, va⟩ := f
 have HGD := Lib.hid hgd
 replace HE : Hid (GE = if I64 (inf + d) then (if lo ≤ inf + d then 0 else 3) else 2) := HE
 clear hf hd h0 hp hgd hne
 go_enter Try.func43, Try.ntmps43
 go_wp2_with fail
 clear hX
 refine (HW.out _).mono ?_
 rintro e1 w1 ⟨rfl, hb1⟩
 replace HA := Lib.hid (HA.out.later hb1)
 generalize X + 1 = R at *
 clear hb1 HW
 go_wp2_with fail
 refine (sides_any X d w1).mono ?_
 rintro e1 w2 ⟨rfl, hb1⟩
 rw [HOW.out.1, HOW.out.2]
 replace HA := Lib.hid (HA.out.later hb1)
 clear hb1
 have qq := block_cell (j := 3) HA.out.x (v := .int .i64 inf) rfl
 go_wp2_with fail
 clear qq
 refine (HAD.out _).mono ?_
 rintro e1 w3 ⟨rfl, rfl⟩
 simp only []
 have HSM : Hid (∀ n : Int, n = inf + d → GE = if I64 n then (if lo ≤ n then 0 else 3) else 2) := Lib.hid (by intro n hn; subst hn; exact HE.out)
 have HEN : Hid (∀ n : Int, n = inf + d → n = inf + d) := Lib.hid fun n h => h
 obtain ⟨n, hn⟩ : ∃ n, inf + d = n := ⟨_, rfl⟩
 replace HSM := Lib.hid (HSM.out n hn.symm)
 have HN := Lib.hid hn
 clear HE HEN
 rw [hn]
 clear hn
 by_cases g1 : I64 n
 rotate_left
 · rw [okB_out n g1, val_out n g1]
   have he : GE = 2 := HSM.out.trans (if_neg g1)
   have hf : GF = ⟨lo, hi, ba, inf, sup, va⟩ := HGF.out.trans (if_neg (by rw [he]; decide))
   subst he hf
   clear HSM HGF HM HGK g1
   obtain ⟨q0, q1, q2, q3, q4, q5⟩ := fcells HA.out.x
   obtain ⟨r0, r1, r2, r3, r4, r5⟩ := fcells HA.out.r
   obtain ⟨f0, f1, f2, f3, f4, f5⟩ := ffree HA.out.r
   have HF := Lib.hid (fstored (a' := .int .i64 lo) (b' := .int .i64 hi) (c' := .int .i64 ba) (d' := .int .i64 inf) (e' := .int .i64 sup) (f' := .int .i64 va) HA.out.r)
   have HG := Lib.hid (fkept HA.out.below HA.out.ord (.int .i64 lo) (.int .i64 hi) (.int .i64 ba) (.int .i64 inf) (.int .i64 sup) (.int .i64 va))
   clear HA
   go_wp2_with fail
   refine bodyPost_ret (v := .tuple #[.agg #[.int .i64 lo, .int .i64 hi, .int .i64 ba, .int .i64 inf, .int .i64 sup, .int .i64 va], .int .i64 2]) ?_ rfl ⟨rfl, HG.out⟩
   exact results_ff rfl _ _ R _ rfl _ rfl rfl HF.out
 rw [okB_in n g1, val_in n g1]
 obtain ⟨q0, q1, q2, q3, q4, q5⟩ := fcells HA.out.x
 by_cases g2 : lo ≤ n
 rotate_left
 · have he : GE = 3 := HSM.out.trans ((if_pos g1).trans (if_neg g2))
   have hf : GF = ⟨lo, hi, ba, inf, sup, va⟩ := HGF.out.trans (if_neg (by rw [he]; decide))
   subst he hf
   have t1 : n < lo := by omega
   clear HSM HGF HM HGK g1 g2
   obtain ⟨r0, r1, r2, r3, r4, r5⟩ := fcells HA.out.r
   obtain ⟨f0, f1, f2, f3, f4, f5⟩ := ffree HA.out.r
   have HF := Lib.hid (fstored (a' := .int .i64 lo) (b' := .int .i64 hi) (c' := .int .i64 ba) (d' := .int .i64 inf) (e' := .int .i64 sup) (f' := .int .i64 va) HA.out.r)
   have HG := Lib.hid (fkept HA.out.below HA.out.ord (.int .i64 lo) (.int .i64 hi) (.int .i64 ba) (.int .i64 inf) (.int .i64 sup) (.int .i64 va))
   clear HA
   go_wp2_with fail
   refine bodyPost_ret (v := .tuple #[.agg #[.int .i64 lo, .int .i64 hi, .int .i64 ba, .int .i64 inf, .int .i64 sup, .int .i64 va], .int .i64 3]) ?_ rfl ⟨rfl, HG.out⟩
   exact results_ff rfl _ _ R _ rfl _ rfl rfl HF.out
 have t1 : ¬ n < lo := by have := HGD.out; have := HN.out; have := HHP.out; simp only [] at *; omega
 have t2 : ¬ hi < n := by have := HGD.out; have := HN.out; have := HHP.out; simp only [] at *; omega
 have he : GE = 0 := HSM.out.trans ((if_pos g1).trans (if_pos g2))
 have hf : GF = GG := HGF.out.trans (if_pos he)
 obtain ⟨hm1, hm2⟩ := HM.out he
 subst hm1 hm2 he hf
 clear HSM HGF HM HGK g1 g2
 go_wp2_with fail
 clear q0 q1 q2 q3 q4 q5
 obtain ⟨a1, a2, a3, a4, a5, a6⟩ := GF
 refine (HV.out _).mono ?_
 rintro e1 w4 ⟨rfl, hb1⟩
 replace HA := Lib.hid (HA.out.later hb1)
 clear hb1 HV
 obtain ⟨r0, r1, r2, r3, r4, r5⟩ := fcells HA.out.r
 obtain ⟨f0, f1, f2, f3, f4, f5⟩ := ffree HA.out.r
 have HF := Lib.hid (fstored (a' := .int .i64 a1) (b' := .int .i64 a2) (c' := .int .i64 a3) (d' := .int .i64 a4) (e' := .int .i64 a5) (f' := .int .i64 a6) HA.out.r)
 have HG := Lib.hid (fkept HA.out.below HA.out.ord (.int .i64 a1) (.int .i64 a2) (.int .i64 a3) (.int .i64 a4) (.int .i64 a5) (.int .i64 a6))
 clear HA
 go_wp2_with fail
 refine bodyPost_ret (v := .tuple #[.agg #[.int .i64 a1, .int .i64 a2, .int .i64 a3, .int .i64 a4, .int .i64 a5, .int .i64 a6], .int .i64 0]) ?_ rfl ⟨rfl, HG.out⟩
 exact results_ff rfl _ _ R _ rfl _ rfl rfl HF.out
theorem grant_any (f : Fv) (d : Int) (W : World) (hf : Fok f) (hd : I64 d) :
 Calls Try.prog 43 #[.agg (fcs f), .int .i64 d] W fun r w' => r = .returned (.tuple #[.agg (fcs (grantF f d)), .int .i64 (grantE f d)]) ∧ Below W.heap.size W w' := by
 by_cases h0 : firstF f d = 0
 · by_cases hp : 0 < d
   · exact grant_up f d W hf hd h0 hp
   · exact grant_down f d W hf hd h0 hp
 · exact grant_first f d W hf hd h0
end Go.Proofs.Ytmdldbchdnkfcaa
