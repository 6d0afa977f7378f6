import Derived.Test.YtmdldbchdnkfcaaPA07
namespace Go.Proofs.Ytmdldbchdnkfcaa
open Go.RowKit Go.ChangeShapes Go.WideShapes
set_option linter.unusedVariables false
set_option linter.unusedSimpArgs false
set_option maxRecDepth 10000
def K3 (k : Int) : Prop := k = 0 ∨ k = 1 ∨ k = -1
theorem rtimes_any (x d k : Int) (w : World) (hx : I64 x) (hd : I64 d) (hk : K3 k) :
 Calls Try.prog 51 #[.int .i64 x, .int .i64 d, .int .i64 k] w fun e w' => e = .returned (.tuple #[.int .i64 (val (x + k * d)), .bool (okB (x + k * d))]) ∧ Below w.heap.size w w' := by
 rcases hk with rfl | rfl | rfl
 · rw [show x + 0 * d = x by omega, val_in x hx, okB_in x hx]
   go_enter Try.func51, Try.ntmps51
   go_wp2_with fail
   go_ret2
   exact ⟨rfl, Below.refl _ _⟩
 · rw [show x + 1 * d = x + d by omega]
   go_enter Try.func51, Try.ntmps51
   go_wp2_with fail
   refine (radd_any x d _ hx.1 hx.2 hd.1 hd.2).mono ?_
   rintro e w2 ⟨rfl, hb⟩
   have HB := Lib.hid hb
   clear hb
   go_wp2_with fail
   go_ret2
   exact ⟨rfl, HB.out⟩
 · rw [show x + (-1) * d = x - d by omega]
   go_enter Try.func51, Try.ntmps51
   go_wp2_with fail
   refine (rsub_any x d _ hx.1 hx.2 hd.1 hd.2).mono ?_
   rintro e w2 ⟨rfl, hb⟩
   have HB := Lib.hid hb
   clear hb
   go_wp2_with fail
   go_ret2
   exact ⟨rfl, HB.out⟩
structure Mp (W w : World) (X C R G : Nat) (f : Fv) (mv mb mn mf : Int) (cs : Array Value) : Prop where
 x : w.heap[X]? = some (.cells (fcs f) 42 (0, 0))
 c : w.heap[C]? = some (.cells #[.int .i64 mv, .int .i64 mb, .int .i64 mn, .int .i64 mf] 77 (0, 0))
 r : w.heap[R]? = some (.cells #[.int .i64 0, .int .i64 0, .int .i64 0, .int .i64 0, .int .i64 0, .int .i64 0] 42 (0, 0))
 g : w.heap[G]? = some (.cells cs 42 (0, 0))
 below : Below W.heap.size W w
 ord : W.heap.size ≤ X ∧ X < C ∧ C < R ∧ R < G
theorem Mp.later {W w w' : World} {X C R G : Nat} {f : Fv} {mv mb mn mf : Int} {cs : Array Value} (h : Mp W w X C R G f mv mb mn mf cs) (hb : Below w.heap.size w w') : Mp W w' X C R G f mv mb mn mf cs :=
 ⟨block_later h.x hb, block_later h.c hb, block_later h.r hb, block_later h.g hb, h.below.trans (hb.mono h.below.size), h.ord⟩
theorem Mp.put {W w : World} {X C R G : Nat} {f : Fv} {mv mb mn mf : Int} {cs : Array Value} (h : Mp W w X C R G f mv mb mn mf cs) (j : Nat) (v : Value) : Mp W (w.setCell ⟨G, j, none⟩ v) X C R G f mv mb mn mf (cs.setIfInBounds j v) := by
 have ho := h.ord
 have hc : Chg (fun k => k = G) w (w.setCell ⟨G, j, none⟩ v) := (Chg.refl _ _).setCell _ _ fun _ => rfl
 exact ⟨(hc.block X (block_lt h.x) (by omega)).trans h.x, (hc.block C (block_lt h.c) (by omega)).trans h.c, (hc.block R (block_lt h.r) (by omega)).trans h.r, block_put j v h.g, hc.below h.below h.below.size fun k hk => by omega, ho⟩
theorem rdo_first (f : Fv) (d mv mb mn mf : Int) (W : World) (hf : Fok f) (hd : I64 d) (h0 : firstF f d ≠ 0) :
 Calls Try.prog 31 #[.agg (fcs f), .int .i64 d, .agg #[.int .i64 mv, .int .i64 mb, .int .i64 mn, .int .i64 mf]] W fun r w' => r = .returned (.tuple #[.agg (fcs (moveF f d mv mb mn mf)), .int .i64 (moveE f d mv mb mn mf)]) ∧ Below W.heap.size W w' := by
 rw [show moveF f d mv mb mn mf = f from move_bad fun h => h0 h.1, show moveE f d mv mb mn mf = firstF f d from if_pos h0]
 have HW := Lib.hid fun W => rfirst_any f d W hd
 have z1 : (firstF f d != 0) = true := by simpa using h0
 generalize firstF f d = z at *
 obtain ⟨lo, hi, ba, inf, sup, va⟩ := f
 obtain ⟨hb0, hx0, hc0, hr0⟩ := fthree W #[.int .i64 lo, .int .i64 hi, .int .i64 ba, .int .i64 inf, .int .i64 sup, .int .i64 va] #[.int .i64 mv, .int .i64 mb, .int .i64 mn, .int .i64 mf] #[.int .i64 0, .int .i64 0, .int .i64 0, .int .i64 0, .int .i64 0, .int .i64 0] 42 77 42
 have HB0 := Lib.hid hb0
 have HX0 := Lib.hid hx0
 have HC0 := Lib.hid hc0
 have HR0 := Lib.hid hr0
 have H0 := Lib.hid h0
 clear hb0 hx0 hc0 hr0 hf hd h0
 go_enter Try.func31, Try.ntmps31
 go_wp2_with fail
 refine (HW.out _).mono ?_
 rintro e1 w1 ⟨rfl, hb1⟩
 have HB1 := Lib.hid (HB0.out.trans (hb1.mono HB0.out.size))
 have HX1 := Lib.hid (block_later HX0.out hb1)
 have HR1 := Lib.hid (block_later HR0.out hb1)
 obtain ⟨q0, q1, q2, q3, q4, q5⟩ := fcells HX1.out
 obtain ⟨r0, r1, r2, r3, r4, r5⟩ := fcells HR1.out
 obtain ⟨f0, f1, f2, f3, f4, f5⟩ := ffree HR1.out
 have HF := Lib.hid (fstored (a' := .int .i64 lo) (b' := .int .i64 hi) (c' := .int .i64 ba) (d' := .int .i64 inf) (e' := .int .i64 sup) (f' := .int .i64 va) HR1.out)
 have HG := Lib.hid (fkept HB1.out (show W.heap.size ≤ W.heap.size + 2 by omega) (.int .i64 lo) (.int .i64 hi) (.int .i64 ba) (.int .i64 inf) (.int .i64 sup) (.int .i64 va))
 clear hb1
 go_wp2_with fail
 refine bodyPost_ret (v := .tuple #[.agg #[.int .i64 lo, .int .i64 hi, .int .i64 ba, .int .i64 inf, .int .i64 sup, .int .i64 va], .int .i64 z]) ?_ rfl ⟨rfl, HG.out⟩
 exact results_ff rfl _ _ (W.heap.size + 2) _ rfl _ rfl rfl HF.out
set_option maxHeartbeats 2000000 in
theorem rdo_up (f : Fv) (d mv mb mn mf : Int) (W : World) (hf : Fok f) (hd : I64 d) (hv : K3 mv) (hb : K3 mb) (hn : K3 mn) (hm : K3 mf) (h0 : firstF f d = 0) (hp : 0 < d) :
 Calls Try.prog 31 #[.agg (fcs f), .int .i64 d, .agg #[.int .i64 mv, .int .i64 mb, .int .i64 mn, .int .i64 mf]] W fun r w' => r = .returned (.tuple #[.agg (fcs (moveF f d mv mb mn mf)), .int .i64 (moveE f d mv mb mn mf)]) ∧ Below W.heap.size W w' := by
 have HW := Lib.hid fun W => rfirst_any f d W hd
 rw [h0] at HW
 have hne := (firstF_zero h0).2.1
 obtain ⟨lo, hi, ba, inf, sup, va⟩ := f
 obtain ⟨k1, k2, k3, k4, k5, k6⟩ := hf
 replace k1 : I64 lo := k1
 replace k2 : I64 hi := k2
 replace k3 : I64 ba := k3
 replace k4 : I64 inf := k4
 replace k5 : I64 sup := k5
 replace k6 : I64 va := k6
 have HMG : Hid (moveG ⟨lo, hi, ba, inf, sup, va⟩ d mv mb mn mf = ⟨lo, hi, ba + mb * d, inf + mn * d, sup + mf * d, va + mv * d⟩) := Lib.hid (if_pos hp)
 have HMO := Lib.hid (fun h => move_out (f := ⟨lo, hi, ba, inf, sup, va⟩) (mv := mv) (mb := mb) (mn := mn) (mf := mf) h0 h)
 have HMK := Lib.hid (fun h g => move_ok (f := ⟨lo, hi, ba, inf, sup, va⟩) (mv := mv) (mb := mb) (mn := mn) (mf := mf) h0 h g)
 rw [HMG.out] at HMO HMK
 have P1 := Lib.hid fun w => rtimes_any va d mv w k6 hd hv
 have P2 := Lib.hid fun w => rtimes_any ba d mb w k3 hd hb
 have P3 := Lib.hid fun w => rtimes_any inf d mn w k4 hd hn
 have P4 := Lib.hid fun w => rtimes_any sup d mf w k5 hd hm
 generalize moveF ⟨lo, hi, ba, inf, sup, va⟩ d mv mb mn mf = MF at *
 generalize moveE ⟨lo, hi, ba, inf, sup, va⟩ d mv mb mn mf = ME at *
 generalize ba + mb * d = nb at *
 generalize va + mv * d = nv at *
 generalize inf + mn * d = ni at *
 generalize sup + mf * d = ns at *
 clear HMG
 obtain ⟨hb0, hx0, hc0, hr0⟩ := fthree W #[.int .i64 lo, .int .i64 hi, .int .i64 ba, .int .i64 inf, .int .i64 sup, .int .i64 va] #[.int .i64 mv, .int .i64 mb, .int .i64 mn, .int .i64 mf] #[.int .i64 0, .int .i64 0, .int .i64 0, .int .i64 0, .int .i64 0, .int .i64 0] 42 77 42
 have HB0 := Lib.hid hb0
 have HX0 := Lib.hid hx0
 have HC0 := Lib.hid hc0
 have HR0 := Lib.hid hr0
 have HP := Lib.hid hp
 have H0 := Lib.hid h0
 have HNE := Lib.hid hne
 have t1 : ¬ d < 0 := by omega
 have KK := Lib.hid (show I64 lo ∧ I64 hi from ⟨k1, k2⟩)
 clear hb0 hx0 hc0 hr0 hv hb hn hm hp h0 hne k1 k2 k3 k4 k5 k6
 have HO : Hid (W.heap.size ≤ W.heap.size + 1 + 1) := Lib.hid (by omega)
 have hX2 : W.heap.size + 2 = W.heap.size + 1 + 1 := rfl
 rw [hX2] at HR0
 have HOX : Hid (W.heap.size ≤ W.heap.size ∧ W.heap.size < W.heap.size + 1 ∧ W.heap.size + 1 < W.heap.size + 1 + 1) := Lib.hid ⟨Nat.le_refl _, by omega, by omega⟩
 obtain ⟨X, hX⟩ : ∃ X, W.heap.size = X := ⟨_, rfl⟩
 have HHX := Lib.hid hX
 rw [hX] at HX0 HC0 HR0 HO HOX
 clear hX2
 go_enter Try.func31, Try.ntmps31
 go_wp2_with fail
 clear hX
 generalize X + 1 + 1 = R at *
 generalize X + 1 = C at *
 refine (HW.out _).mono ?_
 rintro e1 w1 ⟨rfl, hb1⟩
 have hbn : Below w1.heap.size w1 (w1.alloc (.cells #[.int .i64 lo, .int .i64 hi, .int .i64 ba, .int .i64 inf, .int .i64 sup, .int .i64 va] 42)) := (Below.refl _ _).alloc (Nat.le_refl _) _
 have HX1 := Lib.hid (block_later HX0.out hb1)
 obtain ⟨q0, q1, q2, q3, q4, q5⟩ := fcells HX1.out
 have HA := Lib.hid (Mp.mk (W := W) (w := w1.alloc (.cells #[.int .i64 lo, .int .i64 hi, .int .i64 ba, .int .i64 inf, .int .i64 sup, .int .i64 va] 42)) (X := X) (C := C) (R := R) (G := w1.heap.size) (f := ⟨lo, hi, ba, inf, sup, va⟩)
  (block_later HX1.out hbn) (block_later (block_later HC0.out hb1) hbn) (block_later (block_later HR0.out hb1) hbn) (alloc_block _ _) (HB0.out.trans ((hb1.trans (hbn.mono hb1.size)).mono HB0.out.size))
  ⟨by rw [HHX.out]; exact HOX.out.1, HOX.out.2.1, HOX.out.2.2, block_lt (block_later HR0.out hb1)⟩)
 clear hb1 hbn HX0 HC0 HR0 HB0 HW
 go_upto_region 5 with (fail)
 clear q0 q1 q2 q3 q4 q5 HX1
 generalize w1.alloc (.cells #[.int .i64 lo, .int .i64 hi, .int .i64 ba, .int .i64 inf, .int .i64 sup, .int .i64 va] 42) = W1 at *
 generalize w1.heap.size = G at *
 obtain ⟨q0, q1, q2, q3, q4, q5⟩ := fcells HA.out.x
 obtain ⟨p0, p1, p2, p3⟩ := ccells HA.out.c
 go_wp2_with fail
 clear q0 q1 q2 q3 q4 q5 p0 p1 p2 p3
 refine (P1.out _).mono ?_
 rintro e1 w2 ⟨rfl, hb1⟩
 replace HA := Lib.hid (HA.out.later hb1)
 clear hb1
 obtain ⟨q0, q1, q2, q3, q4, q5⟩ := fcells HA.out.x
 obtain ⟨p0, p1, p2, p3⟩ := ccells HA.out.c
 go_wp2_with fail
 clear q0 q1 q2 q3 q4 q5 p0 p1 p2 p3
 refine (P2.out _).mono ?_
 rintro e1 w3 ⟨rfl, hb1⟩
 replace HA := Lib.hid (HA.out.later hb1)
 clear hb1
 obtain ⟨q0, q1, q2, q3, q4, q5⟩ := fcells HA.out.x
 obtain ⟨p0, p1, p2, p3⟩ := ccells HA.out.c
 go_wp2_with fail
 clear q0 q1 q2 q3 q4 q5 p0 p1 p2 p3
 refine (P3.out _).mono ?_
 rintro e1 w4 ⟨rfl, hb1⟩
 replace HA := Lib.hid (HA.out.later hb1)
 clear hb1
 obtain ⟨q0, q1, q2, q3, q4, q5⟩ := fcells HA.out.x
 obtain ⟨p0, p1, p2, p3⟩ := ccells HA.out.c
 go_wp2_with fail
 clear q0 q1 q2 q3 q4 q5 p0 p1 p2 p3
 refine (P4.out _).mono ?_
 rintro e1 w5 ⟨rfl, hb1⟩
 replace HA := Lib.hid (HA.out.later hb1)
 clear hb1
 obtain ⟨q0, q1, q2, q3, q4, q5⟩ := fcells HA.out.g
 obtain ⟨f0, f1, f2, f3, f4, f5⟩ := ffree HA.out.g
 replace HA : Hid (Mp W ((((w5.setCell ⟨G, 5, none⟩ (.int .i64 (val nv))).setCell ⟨G, 2, none⟩ (.int .i64 (val nb))).setCell ⟨G, 3, none⟩ (.int .i64 (val ni))).setCell ⟨G, 4, none⟩ (.int .i64 (val ns))) X C R G ⟨lo, hi, ba, inf, sup, va⟩ mv mb mn mf #[.int .i64 lo, .int .i64 hi, .int .i64 (val nb), .int .i64 (val ni), .int .i64 (val ns), .int .i64 (val nv)]) := Lib.hid ((((HA.out.put 5 (.int .i64 (val nv))).put 2 (.int .i64 (val nb))).put 3 (.int .i64 (val ni))).put 4 (.int .i64 (val ns)))
 go_upto_region 18 with (fail)
 clear q0 q1 q2 q3 q4 q5 f0 f1 f2 f3 f4 f5
 generalize (((w5.setCell ⟨G, 5, none⟩ (.int .i64 (val nv))).setCell ⟨G, 2, none⟩ (.int .i64 (val nb))).setCell ⟨G, 3, none⟩ (.int .i64 (val ni))).setCell ⟨G, 4, none⟩ (.int .i64 (val ns)) = w6 at *
 by_cases g1 : I64 nv
 rotate_left
 · simp only [okB_out nv g1]
   obtain ⟨h1, h2⟩ := HMO.out (fun h => g1 h.1.2.2.2.2.2)
   subst h1 h2
   clear HMO HMK P1 P2 P3 P4 g1
   obtain ⟨q0, q1, q2, q3, q4, q5⟩ := fcells HA.out.x
   obtain ⟨r0, r1, r2, r3, r4, r5⟩ := fcells HA.out.r
   obtain ⟨f0, f1, f2, f3, f4, f5⟩ := ffree HA.out.r
   have HF := Lib.hid (fstored (a' := .int .i64 lo) (b' := .int .i64 hi) (c' := .int .i64 ba) (d' := .int .i64 inf) (e' := .int .i64 sup) (f' := .int .i64 va) HA.out.r)
   have HG := Lib.hid (fkept HA.out.below (show W.heap.size ≤ R by rw [HHX.out]; exact HO.out) (.int .i64 lo) (.int .i64 hi) (.int .i64 ba) (.int .i64 inf) (.int .i64 sup) (.int .i64 va))
   clear HA
   go_wp2_with fail
   refine bodyPost_ret (v := .tuple #[.agg #[.int .i64 lo, .int .i64 hi, .int .i64 ba, .int .i64 inf, .int .i64 sup, .int .i64 va], .int .i64 12]) ?_ rfl ⟨rfl, HG.out⟩
   exact results_ff rfl _ _ R _ rfl _ rfl rfl HF.out
 simp only [okB_in nv g1]
 simp only [val_in nv g1] at HA ⊢
 have GG1 := Lib.hid g1
 clear g1
 by_cases g2 : I64 nb
 rotate_left
 · simp only [okB_out nb g2]
   obtain ⟨h1, h2⟩ := HMO.out (fun h => g2 h.1.2.2.1)
   subst h1 h2
   clear HMO HMK P1 P2 P3 P4 g2
   obtain ⟨q0, q1, q2, q3, q4, q5⟩ := fcells HA.out.x
   obtain ⟨r0, r1, r2, r3, r4, r5⟩ := fcells HA.out.r
   obtain ⟨f0, f1, f2, f3, f4, f5⟩ := ffree HA.out.r
   have HF := Lib.hid (fstored (a' := .int .i64 lo) (b' := .int .i64 hi) (c' := .int .i64 ba) (d' := .int .i64 inf) (e' := .int .i64 sup) (f' := .int .i64 va) HA.out.r)
   have HG := Lib.hid (fkept HA.out.below (show W.heap.size ≤ R by rw [HHX.out]; exact HO.out) (.int .i64 lo) (.int .i64 hi) (.int .i64 ba) (.int .i64 inf) (.int .i64 sup) (.int .i64 va))
   clear HA
   go_wp2_with fail
   refine bodyPost_ret (v := .tuple #[.agg #[.int .i64 lo, .int .i64 hi, .int .i64 ba, .int .i64 inf, .int .i64 sup, .int .i64 va], .int .i64 12]) ?_ rfl ⟨rfl, HG.out⟩
   exact results_ff rfl _ _ R _ rfl _ rfl rfl HF.out
 simp only [okB_in nb g2]
 simp only [val_in nb g2] at HA ⊢
 have GG2 := Lib.hid g2
 clear g2
 by_cases g3 : I64 ni
 rotate_left
 · simp only [okB_out ni g3]
   obtain ⟨h1, h2⟩ := HMO.out (fun h => g3 h.1.2.2.2.1)
   subst h1 h2
   clear HMO HMK P1 P2 P3 P4 g3
   obtain ⟨q0, q1, q2, q3, q4, q5⟩ := fcells HA.out.x
   obtain ⟨r0, r1, r2, r3, r4, r5⟩ := fcells HA.out.r
   obtain ⟨f0, f1, f2, f3, f4, f5⟩ := ffree HA.out.r
   have HF := Lib.hid (fstored (a' := .int .i64 lo) (b' := .int .i64 hi) (c' := .int .i64 ba) (d' := .int .i64 inf) (e' := .int .i64 sup) (f' := .int .i64 va) HA.out.r)
   have HG := Lib.hid (fkept HA.out.below (show W.heap.size ≤ R by rw [HHX.out]; exact HO.out) (.int .i64 lo) (.int .i64 hi) (.int .i64 ba) (.int .i64 inf) (.int .i64 sup) (.int .i64 va))
   clear HA
   go_wp2_with fail
   refine bodyPost_ret (v := .tuple #[.agg #[.int .i64 lo, .int .i64 hi, .int .i64 ba, .int .i64 inf, .int .i64 sup, .int .i64 va], .int .i64 12]) ?_ rfl ⟨rfl, HG.out⟩
   exact results_ff rfl _ _ R _ rfl _ rfl rfl HF.out
 simp only [okB_in ni g3]
 simp only [val_in ni g3] at HA ⊢
 have GG3 := Lib.hid g3
 clear g3
 by_cases g4 : I64 ns
 rotate_left
 · simp only [okB_out ns g4]
   obtain ⟨h1, h2⟩ := HMO.out (fun h => g4 h.1.2.2.2.2.1)
   subst h1 h2
   clear HMO HMK P1 P2 P3 P4 g4
   obtain ⟨q0, q1, q2, q3, q4, q5⟩ := fcells HA.out.x
   obtain ⟨r0, r1, r2, r3, r4, r5⟩ := fcells HA.out.r
   obtain ⟨f0, f1, f2, f3, f4, f5⟩ := ffree HA.out.r
   have HF := Lib.hid (fstored (a' := .int .i64 lo) (b' := .int .i64 hi) (c' := .int .i64 ba) (d' := .int .i64 inf) (e' := .int .i64 sup) (f' := .int .i64 va) HA.out.r)
   have HG := Lib.hid (fkept HA.out.below (show W.heap.size ≤ R by rw [HHX.out]; exact HO.out) (.int .i64 lo) (.int .i64 hi) (.int .i64 ba) (.int .i64 inf) (.int .i64 sup) (.int .i64 va))
   clear HA
   go_wp2_with fail
   refine bodyPost_ret (v := .tuple #[.agg #[.int .i64 lo, .int .i64 hi, .int .i64 ba, .int .i64 inf, .int .i64 sup, .int .i64 va], .int .i64 12]) ?_ rfl ⟨rfl, HG.out⟩
   exact results_ff rfl _ _ R _ rfl _ rfl rfl HF.out
 simp only [okB_in ns g4]
 simp only [val_in ns g4] at HA ⊢
 have GG4 := Lib.hid g4
 clear g4
 obtain ⟨q0, q1, q2, q3, q4, q5⟩ := fcells HA.out.g
 go_wp2_with fail
 clear q0 q1 q2 q3 q4 q5
 refine (rgood_any ⟨lo, hi, nb, ni, ns, nv⟩ _).mono ?_
 rintro e1 w7 ⟨rfl, hb7⟩
 replace HA := Lib.hid (HA.out.later hb7)
 clear hb7
 have hok : Fok ⟨lo, hi, nb, ni, ns, nv⟩ := ⟨KK.out.1, KK.out.2, GG2.out, GG3.out, GG4.out, GG1.out⟩
 by_cases g5 : goodF ⟨lo, hi, nb, ni, ns, nv⟩ = true
 · rw [g5]
   obtain ⟨h1, h2⟩ := HMK.out hok g5
   subst h1 h2
   clear HMO HMK P1 P2 P3 P4 g5 hok
   obtain ⟨q0, q1, q2, q3, q4, q5⟩ := fcells HA.out.g
   obtain ⟨r0, r1, r2, r3, r4, r5⟩ := fcells HA.out.r
   obtain ⟨f0, f1, f2, f3, f4, f5⟩ := ffree HA.out.r
   have HF := Lib.hid (fstored (a' := .int .i64 lo) (b' := .int .i64 hi) (c' := .int .i64 nb) (d' := .int .i64 ni) (e' := .int .i64 ns) (f' := .int .i64 nv) HA.out.r)
   have HG := Lib.hid (fkept HA.out.below (show W.heap.size ≤ R by rw [HHX.out]; exact HO.out) (.int .i64 lo) (.int .i64 hi) (.int .i64 nb) (.int .i64 ni) (.int .i64 ns) (.int .i64 nv))
   clear HA
   go_wp2_with fail
   refine bodyPost_ret (v := .tuple #[.agg #[.int .i64 lo, .int .i64 hi, .int .i64 nb, .int .i64 ni, .int .i64 ns, .int .i64 nv], .int .i64 0]) ?_ rfl ⟨rfl, HG.out⟩
   exact results_ff rfl _ _ R _ rfl _ rfl rfl HF.out
 · obtain ⟨h1, h2⟩ := HMO.out (fun h => g5 h.2)
   rw [Bool.eq_false_iff.2 g5]
   subst h1 h2
   clear HMO HMK P1 P2 P3 P4 g5 hok
   obtain ⟨q0, q1, q2, q3, q4, q5⟩ := fcells HA.out.x
   obtain ⟨r0, r1, r2, r3, r4, r5⟩ := fcells HA.out.r
   obtain ⟨f0, f1, f2, f3, f4, f5⟩ := ffree HA.out.r
   have HF := Lib.hid (fstored (a' := .int .i64 lo) (b' := .int .i64 hi) (c' := .int .i64 ba) (d' := .int .i64 inf) (e' := .int .i64 sup) (f' := .int .i64 va) HA.out.r)
   have HG := Lib.hid (fkept HA.out.below (show W.heap.size ≤ R by rw [HHX.out]; exact HO.out) (.int .i64 lo) (.int .i64 hi) (.int .i64 ba) (.int .i64 inf) (.int .i64 sup) (.int .i64 va))
   clear HA
   go_wp2_with fail
   refine bodyPost_ret (v := .tuple #[.agg #[.int .i64 lo, .int .i64 hi, .int .i64 ba, .int .i64 inf, .int .i64 sup, .int .i64 va], .int .i64 12]) ?_ rfl ⟨rfl, HG.out⟩
   exact results_ff rfl _ _ R _ rfl _ rfl rfl HF.out
set_option maxHeartbeats 2000000 in
theorem rdo_down (f : Fv) (d mv mb mn mf : Int) (W : World) (hf : Fok f) (hd : I64 d) (hv : K3 mv) (hb : K3 mb) (hn : K3 mn) (hm : K3 mf) (h0 : firstF f d = 0) (hp : ¬ 0 < d) :
 Calls Try.prog 31 #[.agg (fcs f), .int .i64 d, .agg #[.int .i64 mv, .int .i64 mb, .int .i64 mn, .int .i64 mf]] W fun r w' => r = .returned (.tuple #[.agg (fcs (moveF f d mv mb mn mf)), .int .i64 (moveE f d mv mb mn mf)]) ∧ Below W.heap.size W w' := by
 have HW := Lib.hid fun W => rfirst_any f d W hd
 rw [h0] at HW
 have hne := (firstF_zero h0).2.1
 obtain ⟨lo, hi, ba, inf, sup, va⟩ := f
 obtain ⟨k1, k2, k3, k4, k5, k6⟩ := hf
 replace k1 : I64 lo := k1
 replace k2 : I64 hi := k2
 replace k3 : I64 ba := k3
 replace k4 : I64 inf := k4
 replace k5 : I64 sup := k5
 replace k6 : I64 va := k6
 have HMG : Hid (moveG ⟨lo, hi, ba, inf, sup, va⟩ d mv mb mn mf = ⟨lo, hi, ba + mb * d, inf + mf * d, sup + mn * d, va + mv * d⟩) := Lib.hid (if_neg hp)
 have HMO := Lib.hid (fun h => move_out (f := ⟨lo, hi, ba, inf, sup, va⟩) (mv := mv) (mb := mb) (mn := mn) (mf := mf) h0 h)
 have HMK := Lib.hid (fun h g => move_ok (f := ⟨lo, hi, ba, inf, sup, va⟩) (mv := mv) (mb := mb) (mn := mn) (mf := mf) h0 h g)
 rw [HMG.out] at HMO HMK
 have P1 := Lib.hid fun w => rtimes_any va d mv w k6 hd hv
 have P2 := Lib.hid fun w => rtimes_any ba d mb w k3 hd hb
 have P3 := Lib.hid fun w => rtimes_any inf d mf w k4 hd hm
 have P4 := Lib.hid fun w => rtimes_any sup d mn w k5 hd hn
 generalize moveF ⟨lo, hi, ba, inf, sup, va⟩ d mv mb mn mf = MF at *
 generalize moveE ⟨lo, hi, ba, inf, sup, va⟩ d mv mb mn mf = ME at *
 generalize ba + mb * d = nb at *
 generalize va + mv * d = nv at *
 generalize inf + mf * d = ni at *
 generalize sup + mn * d = ns at *
 clear HMG
 obtain ⟨hb0, hx0, hc0, hr0⟩ := fthree W #[.int .i64 lo, .int .i64 hi, .int .i64 ba, .int .i64 inf, .int .i64 sup, .int .i64 va] #[.int .i64 mv, .int .i64 mb, .int .i64 mn, .int .i64 mf] #[.int .i64 0, .int .i64 0, .int .i64 0, .int .i64 0, .int .i64 0, .int .i64 0] 42 77 42
 have HB0 := Lib.hid hb0
 have HX0 := Lib.hid hx0
 have HC0 := Lib.hid hc0
 have HR0 := Lib.hid hr0
 have HP := Lib.hid hp
 have H0 := Lib.hid h0
 have HNE := Lib.hid hne
 have t1 : d < 0 := by omega
 have KK := Lib.hid (show I64 lo ∧ I64 hi from ⟨k1, k2⟩)
 clear hb0 hx0 hc0 hr0 hv hb hn hm hp h0 hne k1 k2 k3 k4 k5 k6
 have HO : Hid (W.heap.size ≤ W.heap.size + 1 + 1) := Lib.hid (by omega)
 have hX2 : W.heap.size + 2 = W.heap.size + 1 + 1 := rfl
 rw [hX2] at HR0
 have HOX : Hid (W.heap.size ≤ W.heap.size ∧ W.heap.size < W.heap.size + 1 ∧ W.heap.size + 1 < W.heap.size + 1 + 1) := Lib.hid ⟨Nat.le_refl _, by omega, by omega⟩
 obtain ⟨X, hX⟩ : ∃ X, W.heap.size = X := ⟨_, rfl⟩
 have HHX := Lib.hid hX
 rw [hX] at HX0 HC0 HR0 HO HOX
 clear hX2
 go_enter Try.func31, Try.ntmps31
 go_wp2_with fail
 clear hX
 generalize X + 1 + 1 = R at *
 generalize X + 1 = C at *
 refine (HW.out _).mono ?_
 rintro e1 w1 ⟨rfl, hb1⟩
 have hbn : Below w1.heap.size w1 (w1.alloc (.cells #[.int .i64 lo, .int .i64 hi, .int .i64 ba, .int .i64 inf, .int .i64 sup, .int .i64 va] 42)) := (Below.refl _ _).alloc (Nat.le_refl _) _
 have HX1 := Lib.hid (block_later HX0.out hb1)
 obtain ⟨q0, q1, q2, q3, q4, q5⟩ := fcells HX1.out
 have HA := Lib.hid (Mp.mk (W := W) (w := w1.alloc (.cells #[.int .i64 lo, .int .i64 hi, .int .i64 ba, .int .i64 inf, .int .i64 sup, .int .i64 va] 42)) (X := X) (C := C) (R := R) (G := w1.heap.size) (f := ⟨lo, hi, ba, inf, sup, va⟩)
  (block_later HX1.out hbn) (block_later (block_later HC0.out hb1) hbn) (block_later (block_later HR0.out hb1) hbn) (alloc_block _ _) (HB0.out.trans ((hb1.trans (hbn.mono hb1.size)).mono HB0.out.size))
  ⟨by rw [HHX.out]; exact HOX.out.1, HOX.out.2.1, HOX.out.2.2, block_lt (block_later HR0.out hb1)⟩)
 clear hb1 hbn HX0 HC0 HR0 HB0 HW
 go_upto_region 5 with (fail)
 clear q0 q1 q2 q3 q4 q5 HX1
 generalize w1.alloc (.cells #[.int .i64 lo, .int .i64 hi, .int .i64 ba, .int .i64 inf, .int .i64 sup, .int .i64 va] 42) = W1 at *
 generalize w1.heap.size = G at *
 obtain ⟨q0, q1, q2, q3, q4, q5⟩ := fcells HA.out.x
 obtain ⟨p0, p1, p2, p3⟩ := ccells HA.out.c
 go_wp2_with fail
 clear q0 q1 q2 q3 q4 q5 p0 p1 p2 p3
 refine (P1.out _).mono ?_
 rintro e1 w2 ⟨rfl, hb1⟩
 replace HA := Lib.hid (HA.out.later hb1)
 clear hb1
 obtain ⟨q0, q1, q2, q3, q4, q5⟩ := fcells HA.out.x
 obtain ⟨p0, p1, p2, p3⟩ := ccells HA.out.c
 go_wp2_with fail
 clear q0 q1 q2 q3 q4 q5 p0 p1 p2 p3
 refine (P2.out _).mono ?_
 rintro e1 w3 ⟨rfl, hb1⟩
 replace HA := Lib.hid (HA.out.later hb1)
 clear hb1
 obtain ⟨q0, q1, q2, q3, q4, q5⟩ := fcells HA.out.x
 obtain ⟨p0, p1, p2, p3⟩ := ccells HA.out.c
 go_wp2_with fail
 clear q0 q1 q2 q3 q4 q5 p0 p1 p2 p3
 refine (P3.out _).mono ?_
 rintro e1 w4 ⟨rfl, hb1⟩
 replace HA := Lib.hid (HA.out.later hb1)
 clear hb1
 obtain ⟨q0, q1, q2, q3, q4, q5⟩ := fcells HA.out.x
 obtain ⟨p0, p1, p2, p3⟩ := ccells HA.out.c
 go_wp2_with fail
 clear q0 q1 q2 q3 q4 q5 p0 p1 p2 p3
 refine (P4.out _).mono ?_
 rintro e1 w5 ⟨rfl, hb1⟩
 replace HA := Lib.hid (HA.out.later hb1)
 clear hb1
 obtain ⟨q0, q1, q2, q3, q4, q5⟩ := fcells HA.out.g
 obtain ⟨f0, f1, f2, f3, f4, f5⟩ := ffree HA.out.g
 replace HA : Hid (Mp W ((((w5.setCell ⟨G, 5, none⟩ (.int .i64 (val nv))).setCell ⟨G, 2, none⟩ (.int .i64 (val nb))).setCell ⟨G, 3, none⟩ (.int .i64 (val ni))).setCell ⟨G, 4, none⟩ (.int .i64 (val ns))) X C R G ⟨lo, hi, ba, inf, sup, va⟩ mv mb mn mf #[.int .i64 lo, .int .i64 hi, .int .i64 (val nb), .int .i64 (val ni), .int .i64 (val ns), .int .i64 (val nv)]) := Lib.hid ((((HA.out.put 5 (.int .i64 (val nv))).put 2 (.int .i64 (val nb))).put 3 (.int .i64 (val ni))).put 4 (.int .i64 (val ns)))
 go_upto_region 18 with (fail)
 clear q0 q1 q2 q3 q4 q5 f0 f1 f2 f3 f4 f5
 generalize (((w5.setCell ⟨G, 5, none⟩ (.int .i64 (val nv))).setCell ⟨G, 2, none⟩ (.int .i64 (val nb))).setCell ⟨G, 3, none⟩ (.int .i64 (val ni))).setCell ⟨G, 4, none⟩ (.int .i64 (val ns)) = w6 at *
 by_cases g1 : I64 nv
 rotate_left
 · simp only [okB_out nv g1]
   obtain ⟨h1, h2⟩ := HMO.out (fun h => g1 h.1.2.2.2.2.2)
   subst h1 h2
   clear HMO HMK P1 P2 P3 P4 g1
   obtain ⟨q0, q1, q2, q3, q4, q5⟩ := fcells HA.out.x
   obtain ⟨r0, r1, r2, r3, r4, r5⟩ := fcells HA.out.r
   obtain ⟨f0, f1, f2, f3, f4, f5⟩ := ffree HA.out.r
   have HF := Lib.hid (fstored (a' := .int .i64 lo) (b' := .int .i64 hi) (c' := .int .i64 ba) (d' := .int .i64 inf) (e' := .int .i64 sup) (f' := .int .i64 va) HA.out.r)
   have HG := Lib.hid (fkept HA.out.below (show W.heap.size ≤ R by rw [HHX.out]; exact HO.out) (.int .i64 lo) (.int .i64 hi) (.int .i64 ba) (.int .i64 inf) (.int .i64 sup) (.int .i64 va))
   clear HA
   go_wp2_with fail
   refine bodyPost_ret (v := .tuple #[.agg #[.int .i64 lo, .int .i64 hi, .int .i64 ba, .int .i64 inf, .int .i64 sup, .int .i64 va], .int .i64 12]) ?_ rfl ⟨rfl, HG.out⟩
   exact results_ff rfl _ _ R _ rfl _ rfl rfl HF.out
 simp only [okB_in nv g1]
 simp only [val_in nv g1] at HA ⊢
 have GG1 := Lib.hid g1
 clear g1
 by_cases g2 : I64 nb
 rotate_left
 · simp only [okB_out nb g2]
   obtain ⟨h1, h2⟩ := HMO.out (fun h => g2 h.1.2.2.1)
   subst h1 h2
   clear HMO HMK P1 P2 P3 P4 g2
   obtain ⟨q0, q1, q2, q3, q4, q5⟩ := fcells HA.out.x
   obtain ⟨r0, r1, r2, r3, r4, r5⟩ := fcells HA.out.r
   obtain ⟨f0, f1, f2, f3, f4, f5⟩ := ffree HA.out.r
   have HF := Lib.hid (fstored (a' := .int .i64 lo) (b' := .int .i64 hi) (c' := .int .i64 ba) (d' := .int .i64 inf) (e' := .int .i64 sup) (f' := .int .i64 va) HA.out.r)
   have HG := Lib.hid (fkept HA.out.below (show W.heap.size ≤ R by rw [HHX.out]; exact HO.out) (.int .i64 lo) (.int .i64 hi) (.int .i64 ba) (.int .i64 inf) (.int .i64 sup) (.int .i64 va))
   clear HA
   go_wp2_with fail
   refine bodyPost_ret (v := .tuple #[.agg #[.int .i64 lo, .int .i64 hi, .int .i64 ba, .int .i64 inf, .int .i64 sup, .int .i64 va], .int .i64 12]) ?_ rfl ⟨rfl, HG.out⟩
   exact results_ff rfl _ _ R _ rfl _ rfl rfl HF.out
 simp only [okB_in nb g2]
 simp only [val_in nb g2] at HA ⊢
 have GG2 := Lib.hid g2
 clear g2
 by_cases g3 : I64 ni
 rotate_left
 · simp only [okB_out ni g3]
   obtain ⟨h1, h2⟩ := HMO.out (fun h => g3 h.1.2.2.2.1)
   subst h1 h2
   clear HMO HMK P1 P2 P3 P4 g3
   obtain ⟨q0, q1, q2, q3, q4, q5⟩ := fcells HA.out.x
   obtain ⟨r0, r1, r2, r3, r4, r5⟩ := fcells HA.out.r
   obtain ⟨f0, f1, f2, f3, f4, f5⟩ := ffree HA.out.r
   have HF := Lib.hid (fstored (a' := .int .i64 lo) (b' := .int .i64 hi) (c' := .int .i64 ba) (d' := .int .i64 inf) (e' := .int .i64 sup) (f' := .int .i64 va) HA.out.r)
   have HG := Lib.hid (fkept HA.out.below (show W.heap.size ≤ R by rw [HHX.out]; exact HO.out) (.int .i64 lo) (.int .i64 hi) (.int .i64 ba) (.int .i64 inf) (.int .i64 sup) (.int .i64 va))
   clear HA
   go_wp2_with fail
   refine bodyPost_ret (v := .tuple #[.agg #[.int .i64 lo, .int .i64 hi, .int .i64 ba, .int .i64 inf, .int .i64 sup, .int .i64 va], .int .i64 12]) ?_ rfl ⟨rfl, HG.out⟩
   exact results_ff rfl _ _ R _ rfl _ rfl rfl HF.out
 simp only [okB_in ni g3]
 simp only [val_in ni g3] at HA ⊢
 have GG3 := Lib.hid g3
 clear g3
 by_cases g4 : I64 ns
 rotate_left
 · simp only [okB_out ns g4]
   obtain ⟨h1, h2⟩ := HMO.out (fun h => g4 h.1.2.2.2.2.1)
   subst h1 h2
   clear HMO HMK P1 P2 P3 P4 g4
   obtain ⟨q0, q1, q2, q3, q4, q5⟩ := fcells HA.out.x
   obtain ⟨r0, r1, r2, r3, r4, r5⟩ := fcells HA.out.r
   obtain ⟨f0, f1, f2, f3, f4, f5⟩ := ffree HA.out.r
   have HF := Lib.hid (fstored (a' := .int .i64 lo) (b' := .int .i64 hi) (c' := .int .i64 ba) (d' := .int .i64 inf) (e' := .int .i64 sup) (f' := .int .i64 va) HA.out.r)
   have HG := Lib.hid (fkept HA.out.below (show W.heap.size ≤ R by rw [HHX.out]; exact HO.out) (.int .i64 lo) (.int .i64 hi) (.int .i64 ba) (.int .i64 inf) (.int .i64 sup) (.int .i64 va))
   clear HA
   go_wp2_with fail
   refine bodyPost_ret (v := .tuple #[.agg #[.int .i64 lo, .int .i64 hi, .int .i64 ba, .int .i64 inf, .int .i64 sup, .int .i64 va], .int .i64 12]) ?_ rfl ⟨rfl, HG.out⟩
   exact results_ff rfl _ _ R _ rfl _ rfl rfl HF.out
 simp only [okB_in ns g4]
 simp only [val_in ns g4] at HA ⊢
 have GG4 := Lib.hid g4
 clear g4
 obtain ⟨q0, q1, q2, q3, q4, q5⟩ := fcells HA.out.g
 go_wp2_with fail
 clear q0 q1 q2 q3 q4 q5
 refine (rgood_any ⟨lo, hi, nb, ni, ns, nv⟩ _).mono ?_
 rintro e1 w7 ⟨rfl, hb7⟩
 replace HA := Lib.hid (HA.out.later hb7)
 clear hb7
 have hok : Fok ⟨lo, hi, nb, ni, ns, nv⟩ := ⟨KK.out.1, KK.out.2, GG2.out, GG3.out, GG4.out, GG1.out⟩
 by_cases g5 : goodF ⟨lo, hi, nb, ni, ns, nv⟩ = true
 · rw [g5]
   obtain ⟨h1, h2⟩ := HMK.out hok g5
   subst h1 h2
   clear HMO HMK P1 P2 P3 P4 g5 hok
   obtain ⟨q0, q1, q2, q3, q4, q5⟩ := fcells HA.out.g
   obtain ⟨r0, r1, r2, r3, r4, r5⟩ := fcells HA.out.r
   obtain ⟨f0, f1, f2, f3, f4, f5⟩ := ffree HA.out.r
   have HF := Lib.hid (fstored (a' := .int .i64 lo) (b' := .int .i64 hi) (c' := .int .i64 nb) (d' := .int .i64 ni) (e' := .int .i64 ns) (f' := .int .i64 nv) HA.out.r)
   have HG := Lib.hid (fkept HA.out.below (show W.heap.size ≤ R by rw [HHX.out]; exact HO.out) (.int .i64 lo) (.int .i64 hi) (.int .i64 nb) (.int .i64 ni) (.int .i64 ns) (.int .i64 nv))
   clear HA
   go_wp2_with fail
   refine bodyPost_ret (v := .tuple #[.agg #[.int .i64 lo, .int .i64 hi, .int .i64 nb, .int .i64 ni, .int .i64 ns, .int .i64 nv], .int .i64 0]) ?_ rfl ⟨rfl, HG.out⟩
   exact results_ff rfl _ _ R _ rfl _ rfl rfl HF.out
 · obtain ⟨h1, h2⟩ := HMO.out (fun h => g5 h.2)
   rw [Bool.eq_false_iff.2 g5]
   subst h1 h2
   clear HMO HMK P1 P2 P3 P4 g5 hok
   obtain ⟨q0, q1, q2, q3, q4, q5⟩ := fcells HA.out.x
   obtain ⟨r0, r1, r2, r3, r4, r5⟩ := fcells HA.out.r
   obtain ⟨f0, f1, f2, f3, f4, f5⟩ := ffree HA.out.r
   have HF := Lib.hid (fstored (a' := .int .i64 lo) (b' := .int .i64 hi) (c' := .int .i64 ba) (d' := .int .i64 inf) (e' := .int .i64 sup) (f' := .int .i64 va) HA.out.r)
   have HG := Lib.hid (fkept HA.out.below (show W.heap.size ≤ R by rw [HHX.out]; exact HO.out) (.int .i64 lo) (.int .i64 hi) (.int .i64 ba) (.int .i64 inf) (.int .i64 sup) (.int .i64 va))
   clear HA
   go_wp2_with fail
   refine bodyPost_ret (v := .tuple #[.agg #[.int .i64 lo, .int .i64 hi, .int .i64 ba, .int .i64 inf, .int .i64 sup, .int .i64 va], .int .i64 12]) ?_ rfl ⟨rfl, HG.out⟩
   exact results_ff rfl _ _ R _ rfl _ rfl rfl HF.out
theorem frdo_any (f : Fv) (d mv mb mn mf : Int) (W : World) (hf : Fok f) (hd : I64 d) (hv : K3 mv) (hb : K3 mb) (hn : K3 mn) (hm : K3 mf) :
 Calls Try.prog 31 #[.agg (fcs f), .int .i64 d, .agg #[.int .i64 mv, .int .i64 mb, .int .i64 mn, .int .i64 mf]] W fun r w' => r = .returned (.tuple #[.agg (fcs (moveF f d mv mb mn mf)), .int .i64 (moveE f d mv mb mn mf)]) ∧ Below W.heap.size W w' := by
 by_cases h0 : firstF f d = 0
 · by_cases hp : 0 < d
   · exact rdo_up f d mv mb mn mf W hf hd hv hb hn hm h0 hp
   · exact rdo_down f d mv mb mn mf W hf hd hv hb hn hm h0 hp
 · exact rdo_first f d mv mb mn mf W hf hd h0
end Go.Proofs.Ytmdldbchdnkfcaa
