import Derived.Test.YtmdldbchdnkfcaaPA05
import Derived.Deep.Cut
namespace Go.Proofs.Ytmdldbchdnkfcaa
open Go.RowKit Go.ChangeShapes Go.WideShapes
set_option linter.unusedVariables false
set_option linter.unusedSimpArgs false
set_option maxRecDepth 10000
set_option maxHeartbeats 2000000 in
theorem apply_up (f : Fv) (d kb kv ko kf : Int) (a b c e : Nat) (W : World) (hf : Fok f) (hd : I64 d) (ha : FMk a kb) (hb : FMk b kv) (hc : FMk c ko) (he : FMk e kf) (h0 : firstF f d = 0) (hp : 0 < d) :
 Calls Try.prog 65 #[.agg (fcs f), .int .i64 d, .agg #[.func (.func a) #[] #[], .func (.func b) #[] #[], .func (.func c) #[] #[], .func (.func e) #[] #[]]] W fun r w' => r = .returned (.tuple #[.agg (fcs (moveF f d kv kb kf ko)), .int .i64 (moveE f d kv kb kf ko)]) ∧ Below W.heap.size W w' := by
 have HW := Lib.hid fun W => wrong_any f d W hd
 rw [h0] at HW
 obtain ⟨lo, hi, ba, inf, sup, va⟩ := f
 obtain ⟨k1, k2, k3, k4, k5, k6⟩ := hf
 replace k1 : I64 lo := k1
 replace k2 : I64 hi := k2
 replace k3 : I64 ba := k3
 replace k4 : I64 inf := k4
 replace k5 : I64 sup := k5
 replace k6 : I64 va := k6
 have HOW : Hid (ownJ d = 4 ∧ farJ d = 3) := Lib.hid ⟨if_pos hp, if_pos hp⟩
 have HMG : Hid (moveG ⟨lo, hi, ba, inf, sup, va⟩ d kv kb kf ko = ⟨lo, hi, ba + kb * d, inf + kf * d, sup + ko * d, va + kv * d⟩) := Lib.hid (if_pos hp)
 have HMO := Lib.hid (fun h => move_out (f := ⟨lo, hi, ba, inf, sup, va⟩) (mv := kv) (mb := kb) (mn := kf) (mf := ko) h0 h)
 have HMK := Lib.hid (fun h g => move_ok (f := ⟨lo, hi, ba, inf, sup, va⟩) (mv := kv) (mb := kb) (mn := kf) (mf := ko) h0 h g)
 rw [HMG.out] at HMO HMK
 have P1 := Lib.hid fun w B j => fpart_put B j a kb ba d w ha k3 hd
 have P2 := Lib.hid fun w B j => fpart_put B j b kv va d w hb k6 hd
 have P3 := Lib.hid fun w B j => fpart_put B j c ko sup d w hc k5 hd
 have P4 := Lib.hid fun w B j => fpart_put B j e kf inf d w he k4 hd
 generalize moveF ⟨lo, hi, ba, inf, sup, va⟩ d kv kb kf ko = MF at *
 generalize moveE ⟨lo, hi, ba, inf, sup, va⟩ d kv kb kf ko = ME at *
 generalize ba + kb * d = nb at *
 generalize va + kv * d = nv at *
 generalize sup + ko * d = no at *
 generalize inf + kf * d = nf at *
 clear HMG
 obtain ⟨hb0, hx0, hc0, hr0⟩ := fthree W #[.int .i64 lo, .int .i64 hi, .int .i64 ba, .int .i64 inf, .int .i64 sup, .int .i64 va] #[.func (.func a) #[] #[], .func (.func b) #[] #[], .func (.func c) #[] #[], .func (.func e) #[] #[]] #[.int .i64 0, .int .i64 0, .int .i64 0, .int .i64 0, .int .i64 0, .int .i64 0] 42 104 42
 have HB0 := Lib.hid hb0
 have HX0 := Lib.hid hx0
 have HC0 := Lib.hid hc0
 have HR0 := Lib.hid hr0
 have HP := Lib.hid hp
 have H0 := Lib.hid h0
 have KK := Lib.hid (show I64 lo ∧ I64 hi from ⟨k1, k2⟩)
 clear hb0 hx0 hc0 hr0 ha hb hc he hp h0 k1 k2 k3 k4 k5 k6
 have HO : Hid (W.heap.size ≤ W.heap.size + 1 + 1) := Lib.hid (by omega)
 have hX2 : W.heap.size + 2 = W.heap.size + 1 + 1 := rfl
 rw [hX2] at HR0
 have HOX : Hid (W.heap.size ≤ W.heap.size ∧ W.heap.size < W.heap.size + 1 ∧ W.heap.size + 1 < W.heap.size + 1 + 1) := Lib.hid ⟨Nat.le_refl _, by omega, by omega⟩
 obtain ⟨X, hX⟩ : ∃ X, W.heap.size = X := ⟨_, rfl⟩
 have HHX := Lib.hid hX
 rw [hX] at HX0 HC0 HR0 HO HOX
 clear hX2
 go_enter Try.func65, Try.ntmps65
 go_wp2_with fail
 clear hX
 generalize X + 1 + 1 = R at *
 generalize X + 1 = C at *
 refine (HW.out _).mono ?_
 rintro e1 w1 ⟨rfl, hb1⟩
 have hbn : Below w1.heap.size w1 (w1.alloc (.cells #[.int .i64 lo, .int .i64 hi, .int .i64 ba, .int .i64 inf, .int .i64 sup, .int .i64 va] 42)) := (Below.refl _ _).alloc (Nat.le_refl _) _
 have HX1 := Lib.hid (block_later HX0.out hb1)
 obtain ⟨q0, q1, q2, q3, q4, q5⟩ := fcells HX1.out
 have HA := Lib.hid (Ap.mk (W := W) (w := w1.alloc (.cells #[.int .i64 lo, .int .i64 hi, .int .i64 ba, .int .i64 inf, .int .i64 sup, .int .i64 va] 42)) (X := X) (C := C) (R := R) (G := w1.heap.size) (f := ⟨lo, hi, ba, inf, sup, va⟩)
  (block_later HX1.out hbn) (block_later (block_later HC0.out hb1) hbn) (block_later (block_later HR0.out hb1) hbn) (alloc_block _ _) (HB0.out.trans ((hb1.trans (hbn.mono hb1.size)).mono HB0.out.size))
  ⟨by rw [HHX.out]; exact HOX.out.1, HOX.out.2.1, HOX.out.2.2, block_lt (block_later HR0.out hb1)⟩)
 clear hb1 hbn HX0 HC0 HR0 HB0 HW
 go_upto_region 5 with (fail)
 clear q0 q1 q2 q3 q4 q5 HX1
 generalize w1.alloc (.cells #[.int .i64 lo, .int .i64 hi, .int .i64 ba, .int .i64 inf, .int .i64 sup, .int .i64 va] 42) = W1 at *
 generalize w1.heap.size = G at *
 go_wp2_with fail
 refine (sides_any G d W1).mono ?_
 rintro e1 w2 ⟨rfl, hb2⟩
 rw [HOW.out.1, HOW.out.2]
 have HA0 := Lib.hid (HA.out.later hb2)
 clear hb2 HA
 obtain ⟨p0, p1, p2, p3⟩ := ccells HA0.out.c
 go_wp2_with fail
 clear p0 p1 p2 p3
 refine (P1.out w2 G 2 (block_cell HA0.out.g rfl) (block_free 2 HA0.out.g)).mono ?_
 rintro e1 w3 ⟨rfl, rfl⟩
 by_cases g1 : I64 nb
 rotate_left
 · rw [okB_out nb g1, val_out nb g1]
   have HB1 : Hid (Ap W (w2.setCell ⟨G, 2, none⟩ (.int .i64 0)) X C R G ⟨lo, hi, ba, inf, sup, va⟩ a b c e #[.int .i64 lo, .int .i64 hi, .int .i64 0, .int .i64 inf, .int .i64 sup, .int .i64 va]) := Lib.hid (HA0.out.put 2 (.int .i64 0))
   obtain ⟨h1, h2⟩ := HMO.out (fun h => g1 h.1.2.2.1)
   subst h1 h2
   clear HMO HMK P1 P2 P3 P4 g1
   generalize w2.setCell ⟨G, 2, none⟩ (.int .i64 0) = w4 at *
   obtain ⟨q0, q1, q2, q3, q4, q5⟩ := fcells HB1.out.x
   obtain ⟨r0, r1, r2, r3, r4, r5⟩ := fcells HB1.out.r
   obtain ⟨f0, f1, f2, f3, f4, f5⟩ := ffree HB1.out.r
   have HF := Lib.hid (fstored (a' := .int .i64 lo) (b' := .int .i64 hi) (c' := .int .i64 ba) (d' := .int .i64 inf) (e' := .int .i64 sup) (f' := .int .i64 va) HB1.out.r)
   have HG := Lib.hid (fkept HB1.out.below (show W.heap.size ≤ R by rw [HHX.out]; exact HO.out) (.int .i64 lo) (.int .i64 hi) (.int .i64 ba) (.int .i64 inf) (.int .i64 sup) (.int .i64 va))
   clear HB1
   go_wp2_with fail
   refine bodyPost_ret (v := .tuple #[.agg #[.int .i64 lo, .int .i64 hi, .int .i64 ba, .int .i64 inf, .int .i64 sup, .int .i64 va], .int .i64 12]) ?_ rfl ⟨rfl, HG.out⟩
   exact results_ff rfl _ _ R _ rfl _ rfl rfl HF.out
 rw [okB_in nb g1, val_in nb g1]
 have HA1 : Hid (Ap W (w2.setCell ⟨G, 2, none⟩ (.int .i64 nb)) X C R G ⟨lo, hi, ba, inf, sup, va⟩ a b c e #[.int .i64 lo, .int .i64 hi, .int .i64 nb, .int .i64 inf, .int .i64 sup, .int .i64 va]) := Lib.hid (HA0.out.put 2 (.int .i64 nb))
 generalize w2.setCell ⟨G, 2, none⟩ (.int .i64 nb) = v1 at *
 have GG1 := Lib.hid g1
 clear HA0 g1
 obtain ⟨p0, p1, p2, p3⟩ := ccells HA1.out.c
 go_wp2_with fail
 clear p0 p1 p2 p3
 refine (P2.out v1 G 5 (block_cell HA1.out.g rfl) (block_free 5 HA1.out.g)).mono ?_
 rintro e1 w3 ⟨rfl, rfl⟩
 by_cases g2 : I64 nv
 rotate_left
 · rw [okB_out nv g2, val_out nv g2]
   have HB2 : Hid (Ap W (v1.setCell ⟨G, 5, none⟩ (.int .i64 0)) X C R G ⟨lo, hi, ba, inf, sup, va⟩ a b c e #[.int .i64 lo, .int .i64 hi, .int .i64 nb, .int .i64 inf, .int .i64 sup, .int .i64 0]) := Lib.hid (HA1.out.put 5 (.int .i64 0))
   obtain ⟨h1, h2⟩ := HMO.out (fun h => g2 h.1.2.2.2.2.2)
   subst h1 h2
   clear HMO HMK P1 P2 P3 P4 g2
   generalize v1.setCell ⟨G, 5, none⟩ (.int .i64 0) = w4 at *
   obtain ⟨q0, q1, q2, q3, q4, q5⟩ := fcells HB2.out.x
   obtain ⟨r0, r1, r2, r3, r4, r5⟩ := fcells HB2.out.r
   obtain ⟨f0, f1, f2, f3, f4, f5⟩ := ffree HB2.out.r
   have HF := Lib.hid (fstored (a' := .int .i64 lo) (b' := .int .i64 hi) (c' := .int .i64 ba) (d' := .int .i64 inf) (e' := .int .i64 sup) (f' := .int .i64 va) HB2.out.r)
   have HG := Lib.hid (fkept HB2.out.below (show W.heap.size ≤ R by rw [HHX.out]; exact HO.out) (.int .i64 lo) (.int .i64 hi) (.int .i64 ba) (.int .i64 inf) (.int .i64 sup) (.int .i64 va))
   clear HB2
   go_wp2_with fail
   refine bodyPost_ret (v := .tuple #[.agg #[.int .i64 lo, .int .i64 hi, .int .i64 ba, .int .i64 inf, .int .i64 sup, .int .i64 va], .int .i64 12]) ?_ rfl ⟨rfl, HG.out⟩
   exact results_ff rfl _ _ R _ rfl _ rfl rfl HF.out
 rw [okB_in nv g2, val_in nv g2]
 have HA2 : Hid (Ap W (v1.setCell ⟨G, 5, none⟩ (.int .i64 nv)) X C R G ⟨lo, hi, ba, inf, sup, va⟩ a b c e #[.int .i64 lo, .int .i64 hi, .int .i64 nb, .int .i64 inf, .int .i64 sup, .int .i64 nv]) := Lib.hid (HA1.out.put 5 (.int .i64 nv))
 generalize v1.setCell ⟨G, 5, none⟩ (.int .i64 nv) = v2 at *
 have GG2 := Lib.hid g2
 clear HA1 g2
 obtain ⟨p0, p1, p2, p3⟩ := ccells HA2.out.c
 go_wp2_with fail
 clear p0 p1 p2 p3
 refine (P3.out v2 G 4 (block_cell HA2.out.g rfl) (block_free 4 HA2.out.g)).mono ?_
 rintro e1 w3 ⟨rfl, rfl⟩
 by_cases g3 : I64 no
 rotate_left
 · rw [okB_out no g3, val_out no g3]
   have HB3 : Hid (Ap W (v2.setCell ⟨G, 4, none⟩ (.int .i64 0)) X C R G ⟨lo, hi, ba, inf, sup, va⟩ a b c e #[.int .i64 lo, .int .i64 hi, .int .i64 nb, .int .i64 inf, .int .i64 0, .int .i64 nv]) := Lib.hid (HA2.out.put 4 (.int .i64 0))
   obtain ⟨h1, h2⟩ := HMO.out (fun h => g3 h.1.2.2.2.2.1)
   subst h1 h2
   clear HMO HMK P1 P2 P3 P4 g3
   generalize v2.setCell ⟨G, 4, none⟩ (.int .i64 0) = w4 at *
   obtain ⟨q0, q1, q2, q3, q4, q5⟩ := fcells HB3.out.x
   obtain ⟨r0, r1, r2, r3, r4, r5⟩ := fcells HB3.out.r
   obtain ⟨f0, f1, f2, f3, f4, f5⟩ := ffree HB3.out.r
   have HF := Lib.hid (fstored (a' := .int .i64 lo) (b' := .int .i64 hi) (c' := .int .i64 ba) (d' := .int .i64 inf) (e' := .int .i64 sup) (f' := .int .i64 va) HB3.out.r)
   have HG := Lib.hid (fkept HB3.out.below (show W.heap.size ≤ R by rw [HHX.out]; exact HO.out) (.int .i64 lo) (.int .i64 hi) (.int .i64 ba) (.int .i64 inf) (.int .i64 sup) (.int .i64 va))
   clear HB3
   go_wp2_with fail
   refine bodyPost_ret (v := .tuple #[.agg #[.int .i64 lo, .int .i64 hi, .int .i64 ba, .int .i64 inf, .int .i64 sup, .int .i64 va], .int .i64 12]) ?_ rfl ⟨rfl, HG.out⟩
   exact results_ff rfl _ _ R _ rfl _ rfl rfl HF.out
 rw [okB_in no g3, val_in no g3]
 have HA3 : Hid (Ap W (v2.setCell ⟨G, 4, none⟩ (.int .i64 no)) X C R G ⟨lo, hi, ba, inf, sup, va⟩ a b c e #[.int .i64 lo, .int .i64 hi, .int .i64 nb, .int .i64 inf, .int .i64 no, .int .i64 nv]) := Lib.hid (HA2.out.put 4 (.int .i64 no))
 generalize v2.setCell ⟨G, 4, none⟩ (.int .i64 no) = v3 at *
 have GG3 := Lib.hid g3
 clear HA2 g3
 obtain ⟨p0, p1, p2, p3⟩ := ccells HA3.out.c
 go_wp2_with fail
 clear p0 p1 p2 p3
 refine (P4.out v3 G 3 (block_cell HA3.out.g rfl) (block_free 3 HA3.out.g)).mono ?_
 rintro e1 w3 ⟨rfl, rfl⟩
 by_cases g4 : I64 nf
 rotate_left
 · rw [okB_out nf g4, val_out nf g4]
   have HB4 : Hid (Ap W (v3.setCell ⟨G, 3, none⟩ (.int .i64 0)) X C R G ⟨lo, hi, ba, inf, sup, va⟩ a b c e #[.int .i64 lo, .int .i64 hi, .int .i64 nb, .int .i64 0, .int .i64 no, .int .i64 nv]) := Lib.hid (HA3.out.put 3 (.int .i64 0))
   obtain ⟨h1, h2⟩ := HMO.out (fun h => g4 h.1.2.2.2.1)
   subst h1 h2
   clear HMO HMK P1 P2 P3 P4 g4
   generalize v3.setCell ⟨G, 3, none⟩ (.int .i64 0) = w4 at *
   obtain ⟨q0, q1, q2, q3, q4, q5⟩ := fcells HB4.out.x
   obtain ⟨r0, r1, r2, r3, r4, r5⟩ := fcells HB4.out.r
   obtain ⟨f0, f1, f2, f3, f4, f5⟩ := ffree HB4.out.r
   have HF := Lib.hid (fstored (a' := .int .i64 lo) (b' := .int .i64 hi) (c' := .int .i64 ba) (d' := .int .i64 inf) (e' := .int .i64 sup) (f' := .int .i64 va) HB4.out.r)
   have HG := Lib.hid (fkept HB4.out.below (show W.heap.size ≤ R by rw [HHX.out]; exact HO.out) (.int .i64 lo) (.int .i64 hi) (.int .i64 ba) (.int .i64 inf) (.int .i64 sup) (.int .i64 va))
   clear HB4
   go_wp2_with fail
   refine bodyPost_ret (v := .tuple #[.agg #[.int .i64 lo, .int .i64 hi, .int .i64 ba, .int .i64 inf, .int .i64 sup, .int .i64 va], .int .i64 12]) ?_ rfl ⟨rfl, HG.out⟩
   exact results_ff rfl _ _ R _ rfl _ rfl rfl HF.out
 rw [okB_in nf g4, val_in nf g4]
 have HA4 : Hid (Ap W (v3.setCell ⟨G, 3, none⟩ (.int .i64 nf)) X C R G ⟨lo, hi, ba, inf, sup, va⟩ a b c e #[.int .i64 lo, .int .i64 hi, .int .i64 nb, .int .i64 nf, .int .i64 no, .int .i64 nv]) := Lib.hid (HA3.out.put 3 (.int .i64 nf))
 generalize v3.setCell ⟨G, 3, none⟩ (.int .i64 nf) = v4 at *
 have GG4 := Lib.hid g4
 clear HA3 g4
 obtain ⟨q0, q1, q2, q3, q4, q5⟩ := fcells HA4.out.g
 go_wp2_with fail
 clear q0 q1 q2 q3 q4 q5
 refine (fgood_any ⟨lo, hi, nb, nf, no, nv⟩ _).mono ?_
 rintro e1 w7 ⟨rfl, hb7⟩
 have HA5 := Lib.hid (HA4.out.later hb7)
 clear hb7 HA4
 have hok : Fok ⟨lo, hi, nb, nf, no, nv⟩ := ⟨KK.out.1, KK.out.2, GG1.out, GG4.out, GG3.out, GG2.out⟩
 by_cases g5 : goodF ⟨lo, hi, nb, nf, no, nv⟩ = true
 · rw [g5]
   obtain ⟨h1, h2⟩ := HMK.out hok g5
   subst h1 h2
   clear HMO HMK P1 P2 P3 P4 g5 hok
   obtain ⟨q0, q1, q2, q3, q4, q5⟩ := fcells HA5.out.g
   obtain ⟨r0, r1, r2, r3, r4, r5⟩ := fcells HA5.out.r
   obtain ⟨f0, f1, f2, f3, f4, f5⟩ := ffree HA5.out.r
   have HF := Lib.hid (fstored (a' := .int .i64 lo) (b' := .int .i64 hi) (c' := .int .i64 nb) (d' := .int .i64 nf) (e' := .int .i64 no) (f' := .int .i64 nv) HA5.out.r)
   have HG := Lib.hid (fkept HA5.out.below (show W.heap.size ≤ R by rw [HHX.out]; exact HO.out) (.int .i64 lo) (.int .i64 hi) (.int .i64 nb) (.int .i64 nf) (.int .i64 no) (.int .i64 nv))
   clear HA5
   go_wp2_with fail
   refine bodyPost_ret (v := .tuple #[.agg #[.int .i64 lo, .int .i64 hi, .int .i64 nb, .int .i64 nf, .int .i64 no, .int .i64 nv], .int .i64 0]) ?_ rfl ⟨rfl, HG.out⟩
   exact results_ff rfl _ _ R _ rfl _ rfl rfl HF.out
 · obtain ⟨h1, h2⟩ := HMO.out (fun h => g5 h.2)
   rw [Bool.eq_false_iff.2 g5]
   subst h1 h2
   clear HMO HMK P1 P2 P3 P4 g5 hok
   obtain ⟨q0, q1, q2, q3, q4, q5⟩ := fcells HA5.out.x
   obtain ⟨r0, r1, r2, r3, r4, r5⟩ := fcells HA5.out.r
   obtain ⟨f0, f1, f2, f3, f4, f5⟩ := ffree HA5.out.r
   have HF := Lib.hid (fstored (a' := .int .i64 lo) (b' := .int .i64 hi) (c' := .int .i64 ba) (d' := .int .i64 inf) (e' := .int .i64 sup) (f' := .int .i64 va) HA5.out.r)
   have HG := Lib.hid (fkept HA5.out.below (show W.heap.size ≤ R by rw [HHX.out]; exact HO.out) (.int .i64 lo) (.int .i64 hi) (.int .i64 ba) (.int .i64 inf) (.int .i64 sup) (.int .i64 va))
   clear HA5
   go_wp2_with fail
   refine bodyPost_ret (v := .tuple #[.agg #[.int .i64 lo, .int .i64 hi, .int .i64 ba, .int .i64 inf, .int .i64 sup, .int .i64 va], .int .i64 12]) ?_ rfl ⟨rfl, HG.out⟩
   exact results_ff rfl _ _ R _ rfl _ rfl rfl HF.out
set_option maxHeartbeats 2000000 in
theorem apply_down (f : Fv) (d kb kv ko kf : Int) (a b c e : Nat) (W : World) (hf : Fok f) (hd : I64 d) (ha : FMk a kb) (hb : FMk b kv) (hc : FMk c ko) (he : FMk e kf) (h0 : firstF f d = 0) (hp : ¬ 0 < d) :
 Calls Try.prog 65 #[.agg (fcs f), .int .i64 d, .agg #[.func (.func a) #[] #[], .func (.func b) #[] #[], .func (.func c) #[] #[], .func (.func e) #[] #[]]] W fun r w' => r = .returned (.tuple #[.agg (fcs (moveF f d kv kb kf ko)), .int .i64 (moveE f d kv kb kf ko)]) ∧ Below W.heap.size W w' := by
 have HW := Lib.hid fun W => wrong_any f d W hd
 rw [h0] at HW
 obtain ⟨lo, hi, ba, inf, sup, va⟩ := f
 obtain ⟨k1, k2, k3, k4, k5, k6⟩ := hf
 replace k1 : I64 lo := k1
 replace k2 : I64 hi := k2
 replace k3 : I64 ba := k3
 replace k4 : I64 inf := k4
 replace k5 : I64 sup := k5
 replace k6 : I64 va := k6
 have HOW : Hid (ownJ d = 3 ∧ farJ d = 4) := Lib.hid ⟨if_neg hp, if_neg hp⟩
 have HMG : Hid (moveG ⟨lo, hi, ba, inf, sup, va⟩ d kv kb kf ko = ⟨lo, hi, ba + kb * d, inf + ko * d, sup + kf * d, va + kv * d⟩) := Lib.hid (if_neg hp)
 have HMO := Lib.hid (fun h => move_out (f := ⟨lo, hi, ba, inf, sup, va⟩) (mv := kv) (mb := kb) (mn := kf) (mf := ko) h0 h)
 have HMK := Lib.hid (fun h g => move_ok (f := ⟨lo, hi, ba, inf, sup, va⟩) (mv := kv) (mb := kb) (mn := kf) (mf := ko) h0 h g)
 rw [HMG.out] at HMO HMK
 have P1 := Lib.hid fun w B j => fpart_put B j a kb ba d w ha k3 hd
 have P2 := Lib.hid fun w B j => fpart_put B j b kv va d w hb k6 hd
 have P3 := Lib.hid fun w B j => fpart_put B j c ko inf d w hc k4 hd
 have P4 := Lib.hid fun w B j => fpart_put B j e kf sup d w he k5 hd
 generalize moveF ⟨lo, hi, ba, inf, sup, va⟩ d kv kb kf ko = MF at *
 generalize moveE ⟨lo, hi, ba, inf, sup, va⟩ d kv kb kf ko = ME at *
 generalize ba + kb * d = nb at *
 generalize va + kv * d = nv at *
 generalize inf + ko * d = no at *
 generalize sup + kf * d = nf at *
 clear HMG
 obtain ⟨hb0, hx0, hc0, hr0⟩ := fthree W #[.int .i64 lo, .int .i64 hi, .int .i64 ba, .int .i64 inf, .int .i64 sup, .int .i64 va] #[.func (.func a) #[] #[], .func (.func b) #[] #[], .func (.func c) #[] #[], .func (.func e) #[] #[]] #[.int .i64 0, .int .i64 0, .int .i64 0, .int .i64 0, .int .i64 0, .int .i64 0] 42 104 42
 have HB0 := Lib.hid hb0
 have HX0 := Lib.hid hx0
 have HC0 := Lib.hid hc0
 have HR0 := Lib.hid hr0
 have HP := Lib.hid hp
 have H0 := Lib.hid h0
 have KK := Lib.hid (show I64 lo ∧ I64 hi from ⟨k1, k2⟩)
 clear hb0 hx0 hc0 hr0 ha hb hc he hp h0 k1 k2 k3 k4 k5 k6
 have HO : Hid (W.heap.size ≤ W.heap.size + 1 + 1) := Lib.hid (by omega)
 have hX2 : W.heap.size + 2 = W.heap.size + 1 + 1 := rfl
 rw [hX2] at HR0
 have HOX : Hid (W.heap.size ≤ W.heap.size ∧ W.heap.size < W.heap.size + 1 ∧ W.heap.size + 1 < W.heap.size + 1 + 1) := Lib.hid ⟨Nat.le_refl _, by omega, by omega⟩
 obtain ⟨X, hX⟩ : ∃ X, W.heap.size = X := ⟨_, rfl⟩
 have HHX := Lib.hid hX
 rw [hX] at HX0 HC0 HR0 HO HOX
 clear hX2
 go_enter Try.func65, Try.ntmps65
 go_wp2_with fail
 clear hX
 generalize X + 1 + 1 = R at *
 generalize X + 1 = C at *
 refine (HW.out _).mono ?_
 rintro e1 w1 ⟨rfl, hb1⟩
 have hbn : Below w1.heap.size w1 (w1.alloc (.cells #[.int .i64 lo, .int .i64 hi, .int .i64 ba, .int .i64 inf, .int .i64 sup, .int .i64 va] 42)) := (Below.refl _ _).alloc (Nat.le_refl _) _
 have HX1 := Lib.hid (block_later HX0.out hb1)
 obtain ⟨q0, q1, q2, q3, q4, q5⟩ := fcells HX1.out
 have HA := Lib.hid (Ap.mk (W := W) (w := w1.alloc (.cells #[.int .i64 lo, .int .i64 hi, .int .i64 ba, .int .i64 inf, .int .i64 sup, .int .i64 va] 42)) (X := X) (C := C) (R := R) (G := w1.heap.size) (f := ⟨lo, hi, ba, inf, sup, va⟩)
  (block_later HX1.out hbn) (block_later (block_later HC0.out hb1) hbn) (block_later (block_later HR0.out hb1) hbn) (alloc_block _ _) (HB0.out.trans ((hb1.trans (hbn.mono hb1.size)).mono HB0.out.size))
  ⟨by rw [HHX.out]; exact HOX.out.1, HOX.out.2.1, HOX.out.2.2, block_lt (block_later HR0.out hb1)⟩)
 clear hb1 hbn HX0 HC0 HR0 HB0 HW
 go_upto_region 5 with (fail)
 clear q0 q1 q2 q3 q4 q5 HX1
 generalize w1.alloc (.cells #[.int .i64 lo, .int .i64 hi, .int .i64 ba, .int .i64 inf, .int .i64 sup, .int .i64 va] 42) = W1 at *
 generalize w1.heap.size = G at *
 go_wp2_with fail
 refine (sides_any G d W1).mono ?_
 rintro e1 w2 ⟨rfl, hb2⟩
 rw [HOW.out.1, HOW.out.2]
 have HA0 := Lib.hid (HA.out.later hb2)
 clear hb2 HA
 obtain ⟨p0, p1, p2, p3⟩ := ccells HA0.out.c
 go_wp2_with fail
 clear p0 p1 p2 p3
 refine (P1.out w2 G 2 (block_cell HA0.out.g rfl) (block_free 2 HA0.out.g)).mono ?_
 rintro e1 w3 ⟨rfl, rfl⟩
 by_cases g1 : I64 nb
 rotate_left
 · rw [okB_out nb g1, val_out nb g1]
   have HB1 : Hid (Ap W (w2.setCell ⟨G, 2, none⟩ (.int .i64 0)) X C R G ⟨lo, hi, ba, inf, sup, va⟩ a b c e #[.int .i64 lo, .int .i64 hi, .int .i64 0, .int .i64 inf, .int .i64 sup, .int .i64 va]) := Lib.hid (HA0.out.put 2 (.int .i64 0))
   obtain ⟨h1, h2⟩ := HMO.out (fun h => g1 h.1.2.2.1)
   subst h1 h2
   clear HMO HMK P1 P2 P3 P4 g1
   generalize w2.setCell ⟨G, 2, none⟩ (.int .i64 0) = w4 at *
   obtain ⟨q0, q1, q2, q3, q4, q5⟩ := fcells HB1.out.x
   obtain ⟨r0, r1, r2, r3, r4, r5⟩ := fcells HB1.out.r
   obtain ⟨f0, f1, f2, f3, f4, f5⟩ := ffree HB1.out.r
   have HF := Lib.hid (fstored (a' := .int .i64 lo) (b' := .int .i64 hi) (c' := .int .i64 ba) (d' := .int .i64 inf) (e' := .int .i64 sup) (f' := .int .i64 va) HB1.out.r)
   have HG := Lib.hid (fkept HB1.out.below (show W.heap.size ≤ R by rw [HHX.out]; exact HO.out) (.int .i64 lo) (.int .i64 hi) (.int .i64 ba) (.int .i64 inf) (.int .i64 sup) (.int .i64 va))
   clear HB1
   go_wp2_with fail
   refine bodyPost_ret (v := .tuple #[.agg #[.int .i64 lo, .int .i64 hi, .int .i64 ba, .int .i64 inf, .int .i64 sup, .int .i64 va], .int .i64 12]) ?_ rfl ⟨rfl, HG.out⟩
   exact results_ff rfl _ _ R _ rfl _ rfl rfl HF.out
 rw [okB_in nb g1, val_in nb g1]
 have HA1 : Hid (Ap W (w2.setCell ⟨G, 2, none⟩ (.int .i64 nb)) X C R G ⟨lo, hi, ba, inf, sup, va⟩ a b c e #[.int .i64 lo, .int .i64 hi, .int .i64 nb, .int .i64 inf, .int .i64 sup, .int .i64 va]) := Lib.hid (HA0.out.put 2 (.int .i64 nb))
 generalize w2.setCell ⟨G, 2, none⟩ (.int .i64 nb) = v1 at *
 have GG1 := Lib.hid g1
 clear HA0 g1
 obtain ⟨p0, p1, p2, p3⟩ := ccells HA1.out.c
 go_wp2_with fail
 clear p0 p1 p2 p3
 refine (P2.out v1 G 5 (block_cell HA1.out.g rfl) (block_free 5 HA1.out.g)).mono ?_
 rintro e1 w3 ⟨rfl, rfl⟩
 by_cases g2 : I64 nv
 rotate_left
 · rw [okB_out nv g2, val_out nv g2]
   have HB2 : Hid (Ap W (v1.setCell ⟨G, 5, none⟩ (.int .i64 0)) X C R G ⟨lo, hi, ba, inf, sup, va⟩ a b c e #[.int .i64 lo, .int .i64 hi, .int .i64 nb, .int .i64 inf, .int .i64 sup, .int .i64 0]) := Lib.hid (HA1.out.put 5 (.int .i64 0))
   obtain ⟨h1, h2⟩ := HMO.out (fun h => g2 h.1.2.2.2.2.2)
   subst h1 h2
   clear HMO HMK P1 P2 P3 P4 g2
   generalize v1.setCell ⟨G, 5, none⟩ (.int .i64 0) = w4 at *
   obtain ⟨q0, q1, q2, q3, q4, q5⟩ := fcells HB2.out.x
   obtain ⟨r0, r1, r2, r3, r4, r5⟩ := fcells HB2.out.r
   obtain ⟨f0, f1, f2, f3, f4, f5⟩ := ffree HB2.out.r
   have HF := Lib.hid (fstored (a' := .int .i64 lo) (b' := .int .i64 hi) (c' := .int .i64 ba) (d' := .int .i64 inf) (e' := .int .i64 sup) (f' := .int .i64 va) HB2.out.r)
   have HG := Lib.hid (fkept HB2.out.below (show W.heap.size ≤ R by rw [HHX.out]; exact HO.out) (.int .i64 lo) (.int .i64 hi) (.int .i64 ba) (.int .i64 inf) (.int .i64 sup) (.int .i64 va))
   clear HB2
   go_wp2_with fail
   refine bodyPost_ret (v := .tuple #[.agg #[.int .i64 lo, .int .i64 hi, .int .i64 ba, .int .i64 inf, .int .i64 sup, .int .i64 va], .int .i64 12]) ?_ rfl ⟨rfl, HG.out⟩
   exact results_ff rfl _ _ R _ rfl _ rfl rfl HF.out
 rw [okB_in nv g2, val_in nv g2]
 have HA2 : Hid (Ap W (v1.setCell ⟨G, 5, none⟩ (.int .i64 nv)) X C R G ⟨lo, hi, ba, inf, sup, va⟩ a b c e #[.int .i64 lo, .int .i64 hi, .int .i64 nb, .int .i64 inf, .int .i64 sup, .int .i64 nv]) := Lib.hid (HA1.out.put 5 (.int .i64 nv))
 generalize v1.setCell ⟨G, 5, none⟩ (.int .i64 nv) = v2 at *
 have GG2 := Lib.hid g2
 clear HA1 g2
 obtain ⟨p0, p1, p2, p3⟩ := ccells HA2.out.c
 go_wp2_with fail
 clear p0 p1 p2 p3
 refine (P3.out v2 G 3 (block_cell HA2.out.g rfl) (block_free 3 HA2.out.g)).mono ?_
 rintro e1 w3 ⟨rfl, rfl⟩
 by_cases g3 : I64 no
 rotate_left
 · rw [okB_out no g3, val_out no g3]
   have HB3 : Hid (Ap W (v2.setCell ⟨G, 3, none⟩ (.int .i64 0)) X C R G ⟨lo, hi, ba, inf, sup, va⟩ a b c e #[.int .i64 lo, .int .i64 hi, .int .i64 nb, .int .i64 0, .int .i64 sup, .int .i64 nv]) := Lib.hid (HA2.out.put 3 (.int .i64 0))
   obtain ⟨h1, h2⟩ := HMO.out (fun h => g3 h.1.2.2.2.1)
   subst h1 h2
   clear HMO HMK P1 P2 P3 P4 g3
   generalize v2.setCell ⟨G, 3, none⟩ (.int .i64 0) = w4 at *
   obtain ⟨q0, q1, q2, q3, q4, q5⟩ := fcells HB3.out.x
   obtain ⟨r0, r1, r2, r3, r4, r5⟩ := fcells HB3.out.r
   obtain ⟨f0, f1, f2, f3, f4, f5⟩ := ffree HB3.out.r
   have HF := Lib.hid (fstored (a' := .int .i64 lo) (b' := .int .i64 hi) (c' := .int .i64 ba) (d' := .int .i64 inf) (e' := .int .i64 sup) (f' := .int .i64 va) HB3.out.r)
   have HG := Lib.hid (fkept HB3.out.below (show W.heap.size ≤ R by rw [HHX.out]; exact HO.out) (.int .i64 lo) (.int .i64 hi) (.int .i64 ba) (.int .i64 inf) (.int .i64 sup) (.int .i64 va))
   clear HB3
   go_wp2_with fail
   refine bodyPost_ret (v := .tuple #[.agg #[.int .i64 lo, .int .i64 hi, .int .i64 ba, .int .i64 inf, .int .i64 sup, .int .i64 va], .int .i64 12]) ?_ rfl ⟨rfl, HG.out⟩
   exact results_ff rfl _ _ R _ rfl _ rfl rfl HF.out
 rw [okB_in no g3, val_in no g3]
 have HA3 : Hid (Ap W (v2.setCell ⟨G, 3, none⟩ (.int .i64 no)) X C R G ⟨lo, hi, ba, inf, sup, va⟩ a b c e #[.int .i64 lo, .int .i64 hi, .int .i64 nb, .int .i64 no, .int .i64 sup, .int .i64 nv]) := Lib.hid (HA2.out.put 3 (.int .i64 no))
 generalize v2.setCell ⟨G, 3, none⟩ (.int .i64 no) = v3 at *
 have GG3 := Lib.hid g3
 clear HA2 g3
 obtain ⟨p0, p1, p2, p3⟩ := ccells HA3.out.c
 go_wp2_with fail
 clear p0 p1 p2 p3
 refine (P4.out v3 G 4 (block_cell HA3.out.g rfl) (block_free 4 HA3.out.g)).mono ?_
 rintro e1 w3 ⟨rfl, rfl⟩
 by_cases g4 : I64 nf
 rotate_left
 · rw [okB_out nf g4, val_out nf g4]
   have HB4 : Hid (Ap W (v3.setCell ⟨G, 4, none⟩ (.int .i64 0)) X C R G ⟨lo, hi, ba, inf, sup, va⟩ a b c e #[.int .i64 lo, .int .i64 hi, .int .i64 nb, .int .i64 no, .int .i64 0, .int .i64 nv]) := Lib.hid (HA3.out.put 4 (.int .i64 0))
   obtain ⟨h1, h2⟩ := HMO.out (fun h => g4 h.1.2.2.2.2.1)
   subst h1 h2
   clear HMO HMK P1 P2 P3 P4 g4
   generalize v3.setCell ⟨G, 4, none⟩ (.int .i64 0) = w4 at *
   obtain ⟨q0, q1, q2, q3, q4, q5⟩ := fcells HB4.out.x
   obtain ⟨r0, r1, r2, r3, r4, r5⟩ := fcells HB4.out.r
   obtain ⟨f0, f1, f2, f3, f4, f5⟩ := ffree HB4.out.r
   have HF := Lib.hid (fstored (a' := .int .i64 lo) (b' := .int .i64 hi) (c' := .int .i64 ba) (d' := .int .i64 inf) (e' := .int .i64 sup) (f' := .int .i64 va) HB4.out.r)
   have HG := Lib.hid (fkept HB4.out.below (show W.heap.size ≤ R by rw [HHX.out]; exact HO.out) (.int .i64 lo) (.int .i64 hi) (.int .i64 ba) (.int .i64 inf) (.int .i64 sup) (.int .i64 va))
   clear HB4
   go_wp2_with fail
   refine bodyPost_ret (v := .tuple #[.agg #[.int .i64 lo, .int .i64 hi, .int .i64 ba, .int .i64 inf, .int .i64 sup, .int .i64 va], .int .i64 12]) ?_ rfl ⟨rfl, HG.out⟩
   exact results_ff rfl _ _ R _ rfl _ rfl rfl HF.out
 rw [okB_in nf g4, val_in nf g4]
 have HA4 : Hid (Ap W (v3.setCell ⟨G, 4, none⟩ (.int .i64 nf)) X C R G ⟨lo, hi, ba, inf, sup, va⟩ a b c e #[.int .i64 lo, .int .i64 hi, .int .i64 nb, .int .i64 no, .int .i64 nf, .int .i64 nv]) := Lib.hid (HA3.out.put 4 (.int .i64 nf))
 generalize v3.setCell ⟨G, 4, none⟩ (.int .i64 nf) = v4 at *
 have GG4 := Lib.hid g4
 clear HA3 g4
 obtain ⟨q0, q1, q2, q3, q4, q5⟩ := fcells HA4.out.g
 go_wp2_with fail
 clear q0 q1 q2 q3 q4 q5
 refine (fgood_any ⟨lo, hi, nb, no, nf, nv⟩ _).mono ?_
 rintro e1 w7 ⟨rfl, hb7⟩
 have HA5 := Lib.hid (HA4.out.later hb7)
 clear hb7 HA4
 have hok : Fok ⟨lo, hi, nb, no, nf, nv⟩ := ⟨KK.out.1, KK.out.2, GG1.out, GG3.out, GG4.out, GG2.out⟩
 by_cases g5 : goodF ⟨lo, hi, nb, no, nf, nv⟩ = true
 · rw [g5]
   obtain ⟨h1, h2⟩ := HMK.out hok g5
   subst h1 h2
   clear HMO HMK P1 P2 P3 P4 g5 hok
   obtain ⟨q0, q1, q2, q3, q4, q5⟩ := fcells HA5.out.g
   obtain ⟨r0, r1, r2, r3, r4, r5⟩ := fcells HA5.out.r
   obtain ⟨f0, f1, f2, f3, f4, f5⟩ := ffree HA5.out.r
   have HF := Lib.hid (fstored (a' := .int .i64 lo) (b' := .int .i64 hi) (c' := .int .i64 nb) (d' := .int .i64 no) (e' := .int .i64 nf) (f' := .int .i64 nv) HA5.out.r)
   have HG := Lib.hid (fkept HA5.out.below (show W.heap.size ≤ R by rw [HHX.out]; exact HO.out) (.int .i64 lo) (.int .i64 hi) (.int .i64 nb) (.int .i64 no) (.int .i64 nf) (.int .i64 nv))
   clear HA5
   go_wp2_with fail
   refine bodyPost_ret (v := .tuple #[.agg #[.int .i64 lo, .int .i64 hi, .int .i64 nb, .int .i64 no, .int .i64 nf, .int .i64 nv], .int .i64 0]) ?_ rfl ⟨rfl, HG.out⟩
   exact results_ff rfl _ _ R _ rfl _ rfl rfl HF.out
 · obtain ⟨h1, h2⟩ := HMO.out (fun h => g5 h.2)
   rw [Bool.eq_false_iff.2 g5]
   subst h1 h2
   clear HMO HMK P1 P2 P3 P4 g5 hok
   obtain ⟨q0, q1, q2, q3, q4, q5⟩ := fcells HA5.out.x
   obtain ⟨r0, r1, r2, r3, r4, r5⟩ := fcells HA5.out.r
   obtain ⟨f0, f1, f2, f3, f4, f5⟩ := ffree HA5.out.r
   have HF := Lib.hid (fstored (a' := .int .i64 lo) (b' := .int .i64 hi) (c' := .int .i64 ba) (d' := .int .i64 inf) (e' := .int .i64 sup) (f' := .int .i64 va) HA5.out.r)
   have HG := Lib.hid (fkept HA5.out.below (show W.heap.size ≤ R by rw [HHX.out]; exact HO.out) (.int .i64 lo) (.int .i64 hi) (.int .i64 ba) (.int .i64 inf) (.int .i64 sup) (.int .i64 va))
   clear HA5
   go_wp2_with fail
   refine bodyPost_ret (v := .tuple #[.agg #[.int .i64 lo, .int .i64 hi, .int .i64 ba, .int .i64 inf, .int .i64 sup, .int .i64 va], .int .i64 12]) ?_ rfl ⟨rfl, HG.out⟩
   exact results_ff rfl _ _ R _ rfl _ rfl rfl HF.out
theorem apply_any (f : Fv) (d kb kv ko kf : Int) (a b c e : Nat) (W : World) (hf : Fok f) (hd : I64 d) (ha : FMk a kb) (hb : FMk b kv) (hc : FMk c ko) (he : FMk e kf) :
 Calls Try.prog 65 #[.agg (fcs f), .int .i64 d, .agg #[.func (.func a) #[] #[], .func (.func b) #[] #[], .func (.func c) #[] #[], .func (.func e) #[] #[]]] W fun r w' => r = .returned (.tuple #[.agg (fcs (moveF f d kv kb kf ko)), .int .i64 (moveE f d kv kb kf ko)]) ∧ Below W.heap.size W w' := by
 by_cases h0 : firstF f d = 0
 · by_cases hp : 0 < d
   · exact apply_up f d kb kv ko kf a b c e W hf hd ha hb hc he h0 hp
   · exact apply_down f d kb kv ko kf a b c e W hf hd ha hb hc he h0 hp
 · exact apply_first f d kb kv ko kf a b c e W hd h0
end Go.Proofs.Ytmdldbchdnkfcaa
