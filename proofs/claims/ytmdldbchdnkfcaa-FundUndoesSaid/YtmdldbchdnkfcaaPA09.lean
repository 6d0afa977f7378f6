import Derived.Test.YtmdldbchdnkfcaaPA08
namespace Go.Proofs.Ytmdldbchdnkfcaa
open Go.RowKit Go.ChangeShapes Go.WideShapes
set_option linter.unusedVariables false
set_option linter.unusedSimpArgs false
set_option maxRecDepth 10000
theorem ftwo_boxes (W : World) (c0 c1 : Array Value) (t0 t1 : TypeId) : Below W.heap.size W ((W.alloc (.cells c0 t0)).alloc (.cells c1 t1)) ∧ ((W.alloc (.cells c0 t0)).alloc (.cells c1 t1)).heap[W.heap.size]? = some (.cells c0 t0 (0, 0)) ∧ ((W.alloc (.cells c0 t0)).alloc (.cells c1 t1)).heap[W.heap.size + 1]? = some (.cells c1 t1 (0, 0)) := by
 have s1 : (W.alloc (.cells c0 t0)).heap.size = W.heap.size + 1 := by simp
 have h0 := alloc_block W (.cells c0 t0)
 have h1 := alloc_block (W.alloc (.cells c0 t0)) (.cells c1 t1)
 rw [s1] at h1
 have b1 : Below (W.alloc (.cells c0 t0)).heap.size (W.alloc (.cells c0 t0)) ((W.alloc (.cells c0 t0)).alloc (.cells c1 t1)) := (Below.refl _ _).alloc (Nat.le_refl _) _
 exact ⟨((Below.refl _ _).alloc (Nat.le_refl _) _).alloc (by omega) _, block_later h0 b1, h1⟩
theorem fnew_any (k0 k1 k2 lo init hi : Int) (W : World) :
 Calls Try.prog 24 #[.agg #[.int .u8 k0, .int .u8 k1, .int .u8 k2, .int .i64 lo, .int .i64 init, .int .i64 hi]] W fun r w' => r = .returned (.tuple #[.agg (fcs (newF lo init hi).1), .int .i64 (newF lo init hi).2]) ∧ Below W.heap.size W w' := by
 obtain ⟨hb0, hx0, hr0⟩ := ftwo_boxes W #[.int .u8 k0, .int .u8 k1, .int .u8 k2, .int .i64 lo, .int .i64 init, .int .i64 hi] #[.int .i64 0, .int .i64 0, .int .i64 0, .int .i64 0, .int .i64 0, .int .i64 0] 63 42
 have HB0 := Lib.hid hb0
 have HX0 := Lib.hid hx0
 have HR0 := Lib.hid hr0
 clear hb0 hx0 hr0
 by_cases h1 : lo ≤ init
 · by_cases h2 : init ≤ hi
   · have t1 : ¬ init < lo := by omega
     have t2 : ¬ hi < init := by omega
     rw [show newF lo init hi = (⟨lo, hi, init, init, init, init⟩, 0) from if_pos ⟨h1, h2⟩]
     clear h1 h2
     obtain ⟨X, hX⟩ : ∃ X, W.heap.size = X := ⟨_, rfl⟩
     have HHX := Lib.hid hX
     rw [hX] at HX0 HR0
     have HO : Hid (W.heap.size ≤ X + 1) := Lib.hid (by omega)
     go_enter Try.func24, Try.ntmps24
     go_upto_region 1 with (fail)
     clear hX
     generalize (W.alloc (.cells #[.int .u8 k0, .int .u8 k1, .int .u8 k2, .int .i64 lo, .int .i64 init, .int .i64 hi] 63)).alloc (.cells #[.int .i64 0, .int .i64 0, .int .i64 0, .int .i64 0, .int .i64 0, .int .i64 0] 42) = W1 at *
     generalize X + 1 = R at *
     obtain ⟨q0, q1, q2, q3, q4, q5⟩ := fcells HX0.out
     obtain ⟨r0, r1, r2, r3, r4, r5⟩ := fcells HR0.out
     obtain ⟨f0, f1, f2, f3, f4, f5⟩ := ffree HR0.out
     have HF := Lib.hid (fstored (a' := .int .i64 lo) (b' := .int .i64 hi) (c' := .int .i64 init) (d' := .int .i64 init) (e' := .int .i64 init) (f' := .int .i64 init) HR0.out)
     have HG := Lib.hid (fkept HB0.out HO.out (.int .i64 lo) (.int .i64 hi) (.int .i64 init) (.int .i64 init) (.int .i64 init) (.int .i64 init))
     go_wp2_with fail
     refine bodyPost_ret (v := .tuple #[.agg #[.int .i64 lo, .int .i64 hi, .int .i64 init, .int .i64 init, .int .i64 init, .int .i64 init], .int .i64 0]) ?_ rfl ⟨rfl, HG.out⟩
     exact results_ff rfl _ _ R _ rfl _ rfl rfl HF.out
   · rw [show newF lo init hi = (fz, 3) from if_neg (fun h => h2 h.2)]
     have t1 : ¬ init < lo := by omega
     have t2 : hi < init := by omega
     clear h1 h2
     obtain ⟨X, hX⟩ : ∃ X, W.heap.size = X := ⟨_, rfl⟩
     have HHX := Lib.hid hX
     rw [hX] at HX0 HR0
     have HO : Hid (W.heap.size ≤ X + 1) := Lib.hid (by omega)
     go_enter Try.func24, Try.ntmps24
     go_upto_region 1 with (fail)
     clear hX
     generalize (W.alloc (.cells #[.int .u8 k0, .int .u8 k1, .int .u8 k2, .int .i64 lo, .int .i64 init, .int .i64 hi] 63)).alloc (.cells #[.int .i64 0, .int .i64 0, .int .i64 0, .int .i64 0, .int .i64 0, .int .i64 0] 42) = W1 at *
     generalize X + 1 = R at *
     obtain ⟨q0, q1, q2, q3, q4, q5⟩ := fcells HX0.out
     obtain ⟨r0, r1, r2, r3, r4, r5⟩ := fcells HR0.out
     obtain ⟨f0, f1, f2, f3, f4, f5⟩ := ffree HR0.out
     have HF := Lib.hid (fstored (a' := .int .i64 0) (b' := .int .i64 0) (c' := .int .i64 0) (d' := .int .i64 0) (e' := .int .i64 0) (f' := .int .i64 0) HR0.out)
     have HG := Lib.hid (fkept HB0.out HO.out (.int .i64 0) (.int .i64 0) (.int .i64 0) (.int .i64 0) (.int .i64 0) (.int .i64 0))
     go_wp2_with fail
     refine bodyPost_ret (v := .tuple #[.agg #[.int .i64 0, .int .i64 0, .int .i64 0, .int .i64 0, .int .i64 0, .int .i64 0], .int .i64 3]) ?_ rfl ⟨rfl, HG.out⟩
     exact results_ff rfl _ _ R _ rfl _ rfl rfl HF.out
 · rw [show newF lo init hi = (fz, 3) from if_neg (fun h => h1 h.1)]
   have t1 : init < lo := by omega
   clear h1
   obtain ⟨X, hX⟩ : ∃ X, W.heap.size = X := ⟨_, rfl⟩
   have HHX := Lib.hid hX
   rw [hX] at HX0 HR0
   have HO : Hid (W.heap.size ≤ X + 1) := Lib.hid (by omega)
   go_enter Try.func24, Try.ntmps24
   go_upto_region 1 with (fail)
   clear hX
   generalize (W.alloc (.cells #[.int .u8 k0, .int .u8 k1, .int .u8 k2, .int .i64 lo, .int .i64 init, .int .i64 hi] 63)).alloc (.cells #[.int .i64 0, .int .i64 0, .int .i64 0, .int .i64 0, .int .i64 0, .int .i64 0] 42) = W1 at *
   generalize X + 1 = R at *
   obtain ⟨q0, q1, q2, q3, q4, q5⟩ := fcells HX0.out
   obtain ⟨r0, r1, r2, r3, r4, r5⟩ := fcells HR0.out
   obtain ⟨f0, f1, f2, f3, f4, f5⟩ := ffree HR0.out
   have HF := Lib.hid (fstored (a' := .int .i64 0) (b' := .int .i64 0) (c' := .int .i64 0) (d' := .int .i64 0) (e' := .int .i64 0) (f' := .int .i64 0) HR0.out)
   have HG := Lib.hid (fkept HB0.out HO.out (.int .i64 0) (.int .i64 0) (.int .i64 0) (.int .i64 0) (.int .i64 0) (.int .i64 0))
   go_wp2_with fail
   refine bodyPost_ret (v := .tuple #[.agg #[.int .i64 0, .int .i64 0, .int .i64 0, .int .i64 0, .int .i64 0, .int .i64 0], .int .i64 3]) ?_ rfl ⟨rfl, HG.out⟩
   exact results_ff rfl _ _ R _ rfl _ rfl rfl HF.out
theorem rnew_any (k0 k1 k2 lo init hi : Int) (W : World) :
 Calls Try.prog 26 #[.agg #[.int .u8 k0, .int .u8 k1, .int .u8 k2, .int .i64 lo, .int .i64 init, .int .i64 hi]] W fun r w' => r = .returned (.tuple #[.agg (fcs (newF lo init hi).1), .int .i64 (newF lo init hi).2]) ∧ Below W.heap.size W w' := by
 obtain ⟨hb0, hx0, hr0⟩ := ftwo_boxes W #[.int .u8 k0, .int .u8 k1, .int .u8 k2, .int .i64 lo, .int .i64 init, .int .i64 hi] #[.int .i64 0, .int .i64 0, .int .i64 0, .int .i64 0, .int .i64 0, .int .i64 0] 63 42
 have HB0 := Lib.hid hb0
 have HX0 := Lib.hid hx0
 have HR0 := Lib.hid hr0
 clear hb0 hx0 hr0
 by_cases h1 : lo ≤ init
 · by_cases h2 : init ≤ hi
   · have t1 : ¬ init < lo := by omega
     have t2 : ¬ hi < init := by omega
     rw [show newF lo init hi = (⟨lo, hi, init, init, init, init⟩, 0) from if_pos ⟨h1, h2⟩]
     clear h1 h2
     obtain ⟨X, hX⟩ : ∃ X, W.heap.size = X := ⟨_, rfl⟩
     have HHX := Lib.hid hX
     rw [hX] at HX0 HR0
     have HO : Hid (W.heap.size ≤ X + 1) := Lib.hid (by omega)
     go_enter Try.func26, Try.ntmps26
     go_upto_region 1 with (fail)
     clear hX
     generalize (W.alloc (.cells #[.int .u8 k0, .int .u8 k1, .int .u8 k2, .int .i64 lo, .int .i64 init, .int .i64 hi] 63)).alloc (.cells #[.int .i64 0, .int .i64 0, .int .i64 0, .int .i64 0, .int .i64 0, .int .i64 0] 42) = W1 at *
     generalize X + 1 = R at *
     obtain ⟨q0, q1, q2, q3, q4, q5⟩ := fcells HX0.out
     obtain ⟨r0, r1, r2, r3, r4, r5⟩ := fcells HR0.out
     obtain ⟨f0, f1, f2, f3, f4, f5⟩ := ffree HR0.out
     have HF := Lib.hid (fstored (a' := .int .i64 lo) (b' := .int .i64 hi) (c' := .int .i64 init) (d' := .int .i64 init) (e' := .int .i64 init) (f' := .int .i64 init) HR0.out)
     have HG := Lib.hid (fkept HB0.out HO.out (.int .i64 lo) (.int .i64 hi) (.int .i64 init) (.int .i64 init) (.int .i64 init) (.int .i64 init))
     go_wp2_with fail
     refine bodyPost_ret (v := .tuple #[.agg #[.int .i64 lo, .int .i64 hi, .int .i64 init, .int .i64 init, .int .i64 init, .int .i64 init], .int .i64 0]) ?_ rfl ⟨rfl, HG.out⟩
     exact results_ff rfl _ _ R _ rfl _ rfl rfl HF.out
   · rw [show newF lo init hi = (fz, 3) from if_neg (fun h => h2 h.2)]
     have t1 : ¬ init < lo := by omega
     have t2 : hi < init := by omega
     clear h1 h2
     obtain ⟨X, hX⟩ : ∃ X, W.heap.size = X := ⟨_, rfl⟩
     have HHX := Lib.hid hX
     rw [hX] at HX0 HR0
     have HO : Hid (W.heap.size ≤ X + 1) := Lib.hid (by omega)
     go_enter Try.func26, Try.ntmps26
     go_upto_region 1 with (fail)
     clear hX
     generalize (W.alloc (.cells #[.int .u8 k0, .int .u8 k1, .int .u8 k2, .int .i64 lo, .int .i64 init, .int .i64 hi] 63)).alloc (.cells #[.int .i64 0, .int .i64 0, .int .i64 0, .int .i64 0, .int .i64 0, .int .i64 0] 42) = W1 at *
     generalize X + 1 = R at *
     obtain ⟨q0, q1, q2, q3, q4, q5⟩ := fcells HX0.out
     obtain ⟨r0, r1, r2, r3, r4, r5⟩ := fcells HR0.out
     obtain ⟨f0, f1, f2, f3, f4, f5⟩ := ffree HR0.out
     have HF := Lib.hid (fstored (a' := .int .i64 0) (b' := .int .i64 0) (c' := .int .i64 0) (d' := .int .i64 0) (e' := .int .i64 0) (f' := .int .i64 0) HR0.out)
     have HG := Lib.hid (fkept HB0.out HO.out (.int .i64 0) (.int .i64 0) (.int .i64 0) (.int .i64 0) (.int .i64 0) (.int .i64 0))
     go_wp2_with fail
     refine bodyPost_ret (v := .tuple #[.agg #[.int .i64 0, .int .i64 0, .int .i64 0, .int .i64 0, .int .i64 0, .int .i64 0], .int .i64 3]) ?_ rfl ⟨rfl, HG.out⟩
     exact results_ff rfl _ _ R _ rfl _ rfl rfl HF.out
 · rw [show newF lo init hi = (fz, 3) from if_neg (fun h => h1 h.1)]
   have t1 : init < lo := by omega
   clear h1
   obtain ⟨X, hX⟩ : ∃ X, W.heap.size = X := ⟨_, rfl⟩
   have HHX := Lib.hid hX
   rw [hX] at HX0 HR0
   have HO : Hid (W.heap.size ≤ X + 1) := Lib.hid (by omega)
   go_enter Try.func26, Try.ntmps26
   go_upto_region 1 with (fail)
   clear hX
   generalize (W.alloc (.cells #[.int .u8 k0, .int .u8 k1, .int .u8 k2, .int .i64 lo, .int .i64 init, .int .i64 hi] 63)).alloc (.cells #[.int .i64 0, .int .i64 0, .int .i64 0, .int .i64 0, .int .i64 0, .int .i64 0] 42) = W1 at *
   generalize X + 1 = R at *
   obtain ⟨q0, q1, q2, q3, q4, q5⟩ := fcells HX0.out
   obtain ⟨r0, r1, r2, r3, r4, r5⟩ := fcells HR0.out
   obtain ⟨f0, f1, f2, f3, f4, f5⟩ := ffree HR0.out
   have HF := Lib.hid (fstored (a' := .int .i64 0) (b' := .int .i64 0) (c' := .int .i64 0) (d' := .int .i64 0) (e' := .int .i64 0) (f' := .int .i64 0) HR0.out)
   have HG := Lib.hid (fkept HB0.out HO.out (.int .i64 0) (.int .i64 0) (.int .i64 0) (.int .i64 0) (.int .i64 0) (.int .i64 0))
   go_wp2_with fail
   refine bodyPost_ret (v := .tuple #[.agg #[.int .i64 0, .int .i64 0, .int .i64 0, .int .i64 0, .int .i64 0, .int .i64 0], .int .i64 3]) ?_ rfl ⟨rfl, HG.out⟩
   exact results_ff rfl _ _ R _ rfl _ rfl rfl HF.out
def mvV (c : Int) : Int := if c = 1 ∨ c = 3 then -1 else if c = 4 then 1 else 0
def mvB (c : Int) : Int := if c = 2 then 1 else 0
def mvN (c : Int) : Int := if c = 2 then 1 else 0
def mvF (c : Int) : Int := if c = 1 ∨ c = 5 then -1 else 0
theorem moved_any (c : Int) (W : World) (hc : c = 1 ∨ c = 2 ∨ c = 3 ∨ c = 4 ∨ c = 5) :
 Calls Try.prog 32 #[.int .i64 c] W fun r w' => r = .returned (.agg #[.int .i64 (mvV c), .int .i64 (mvB c), .int .i64 (mvN c), .int .i64 (mvF c)]) ∧ Below W.heap.size W w' := by
 have HB0 : Hid (Below W.heap.size W (W.alloc (.cells #[.int .i64 0, .int .i64 0, .int .i64 0, .int .i64 0] 77))) := Lib.hid ((Below.refl _ _).alloc (Nat.le_refl _) _)
 have HR0 := Lib.hid (alloc_block W (.cells #[.int .i64 0, .int .i64 0, .int .i64 0, .int .i64 0] 77))
 obtain ⟨X, hX⟩ : ∃ X, W.heap.size = X := ⟨_, rfl⟩
 have HHX := Lib.hid hX
 rw [hX] at HR0
 have HO : Hid (W.heap.size ≤ X) := Lib.hid (by omega)
 rcases hc with rfl | rfl | rfl | rfl | rfl
 · go_enter Try.func32, Try.ntmps32
   go_upto_region 1 with (fail)
   clear hX
   generalize W.alloc (.cells #[.int .i64 0, .int .i64 0, .int .i64 0, .int .i64 0] 77) = W1 at *
   obtain ⟨r0, r1, r2, r3⟩ := ccells HR0.out
   obtain ⟨f0, f1, f2, f3, f4, f5⟩ := ffree HR0.out
   have HF : Hid (((((W1.setCell ⟨X, 0, none⟩ (.int .i64 (-1))).setCell ⟨X, 1, none⟩ (.int .i64 0)).setCell ⟨X, 2, none⟩ (.int .i64 0)).setCell ⟨X, 3, none⟩ (.int .i64 (-1))).heap[X]? = some (.cells #[.int .i64 (-1), .int .i64 0, .int .i64 0, .int .i64 (-1)] 77 (0, 0))) := Lib.hid (block_put 3 _ (block_put 2 _ (block_put 1 _ (block_put 0 _ HR0.out))))
   have HG : Hid (Below W.heap.size W ((((W1.setCell ⟨X, 0, none⟩ (.int .i64 (-1))).setCell ⟨X, 1, none⟩ (.int .i64 0)).setCell ⟨X, 2, none⟩ (.int .i64 0)).setCell ⟨X, 3, none⟩ (.int .i64 (-1)))) := Lib.hid ((((HB0.out.setCell HO.out _).setCell HO.out _).setCell HO.out _).setCell HO.out _)
   go_wp2_with fail
   refine bodyPost_ret (v := .agg #[.int .i64 (-1), .int .i64 0, .int .i64 0, .int .i64 (-1)]) ?_ rfl ⟨rfl, HG.out⟩
   exact results_cell_row rfl _ _ X 77 _ (0, 0) _ rfl HF.out Try.underlying77 rfl (by kernel_rfl)
 · go_enter Try.func32, Try.ntmps32
   go_upto_region 1 with (fail)
   clear hX
   generalize W.alloc (.cells #[.int .i64 0, .int .i64 0, .int .i64 0, .int .i64 0] 77) = W1 at *
   obtain ⟨r0, r1, r2, r3⟩ := ccells HR0.out
   obtain ⟨f0, f1, f2, f3, f4, f5⟩ := ffree HR0.out
   have HF : Hid (((((W1.setCell ⟨X, 0, none⟩ (.int .i64 0)).setCell ⟨X, 1, none⟩ (.int .i64 1)).setCell ⟨X, 2, none⟩ (.int .i64 1)).setCell ⟨X, 3, none⟩ (.int .i64 0)).heap[X]? = some (.cells #[.int .i64 0, .int .i64 1, .int .i64 1, .int .i64 0] 77 (0, 0))) := Lib.hid (block_put 3 _ (block_put 2 _ (block_put 1 _ (block_put 0 _ HR0.out))))
   have HG : Hid (Below W.heap.size W ((((W1.setCell ⟨X, 0, none⟩ (.int .i64 0)).setCell ⟨X, 1, none⟩ (.int .i64 1)).setCell ⟨X, 2, none⟩ (.int .i64 1)).setCell ⟨X, 3, none⟩ (.int .i64 0))) := Lib.hid ((((HB0.out.setCell HO.out _).setCell HO.out _).setCell HO.out _).setCell HO.out _)
   go_wp2_with fail
   refine bodyPost_ret (v := .agg #[.int .i64 0, .int .i64 1, .int .i64 1, .int .i64 0]) ?_ rfl ⟨rfl, HG.out⟩
   exact results_cell_row rfl _ _ X 77 _ (0, 0) _ rfl HF.out Try.underlying77 rfl (by kernel_rfl)
 · go_enter Try.func32, Try.ntmps32
   go_upto_region 1 with (fail)
   clear hX
   generalize W.alloc (.cells #[.int .i64 0, .int .i64 0, .int .i64 0, .int .i64 0] 77) = W1 at *
   obtain ⟨r0, r1, r2, r3⟩ := ccells HR0.out
   obtain ⟨f0, f1, f2, f3, f4, f5⟩ := ffree HR0.out
   have HF : Hid (((((W1.setCell ⟨X, 0, none⟩ (.int .i64 (-1))).setCell ⟨X, 1, none⟩ (.int .i64 0)).setCell ⟨X, 2, none⟩ (.int .i64 0)).setCell ⟨X, 3, none⟩ (.int .i64 0)).heap[X]? = some (.cells #[.int .i64 (-1), .int .i64 0, .int .i64 0, .int .i64 0] 77 (0, 0))) := Lib.hid (block_put 3 _ (block_put 2 _ (block_put 1 _ (block_put 0 _ HR0.out))))
   have HG : Hid (Below W.heap.size W ((((W1.setCell ⟨X, 0, none⟩ (.int .i64 (-1))).setCell ⟨X, 1, none⟩ (.int .i64 0)).setCell ⟨X, 2, none⟩ (.int .i64 0)).setCell ⟨X, 3, none⟩ (.int .i64 0))) := Lib.hid ((((HB0.out.setCell HO.out _).setCell HO.out _).setCell HO.out _).setCell HO.out _)
   go_wp2_with fail
   refine bodyPost_ret (v := .agg #[.int .i64 (-1), .int .i64 0, .int .i64 0, .int .i64 0]) ?_ rfl ⟨rfl, HG.out⟩
   exact results_cell_row rfl _ _ X 77 _ (0, 0) _ rfl HF.out Try.underlying77 rfl (by kernel_rfl)
 · go_enter Try.func32, Try.ntmps32
   go_upto_region 1 with (fail)
   clear hX
   generalize W.alloc (.cells #[.int .i64 0, .int .i64 0, .int .i64 0, .int .i64 0] 77) = W1 at *
   obtain ⟨r0, r1, r2, r3⟩ := ccells HR0.out
   obtain ⟨f0, f1, f2, f3, f4, f5⟩ := ffree HR0.out
   have HF : Hid (((((W1.setCell ⟨X, 0, none⟩ (.int .i64 1)).setCell ⟨X, 1, none⟩ (.int .i64 0)).setCell ⟨X, 2, none⟩ (.int .i64 0)).setCell ⟨X, 3, none⟩ (.int .i64 0)).heap[X]? = some (.cells #[.int .i64 1, .int .i64 0, .int .i64 0, .int .i64 0] 77 (0, 0))) := Lib.hid (block_put 3 _ (block_put 2 _ (block_put 1 _ (block_put 0 _ HR0.out))))
   have HG : Hid (Below W.heap.size W ((((W1.setCell ⟨X, 0, none⟩ (.int .i64 1)).setCell ⟨X, 1, none⟩ (.int .i64 0)).setCell ⟨X, 2, none⟩ (.int .i64 0)).setCell ⟨X, 3, none⟩ (.int .i64 0))) := Lib.hid ((((HB0.out.setCell HO.out _).setCell HO.out _).setCell HO.out _).setCell HO.out _)
   go_wp2_with fail
   refine bodyPost_ret (v := .agg #[.int .i64 1, .int .i64 0, .int .i64 0, .int .i64 0]) ?_ rfl ⟨rfl, HG.out⟩
   exact results_cell_row rfl _ _ X 77 _ (0, 0) _ rfl HF.out Try.underlying77 rfl (by kernel_rfl)
 · go_enter Try.func32, Try.ntmps32
   go_upto_region 1 with (fail)
   clear hX
   generalize W.alloc (.cells #[.int .i64 0, .int .i64 0, .int .i64 0, .int .i64 0] 77) = W1 at *
   obtain ⟨r0, r1, r2, r3⟩ := ccells HR0.out
   obtain ⟨f0, f1, f2, f3, f4, f5⟩ := ffree HR0.out
   have HF : Hid (((((W1.setCell ⟨X, 0, none⟩ (.int .i64 0)).setCell ⟨X, 1, none⟩ (.int .i64 0)).setCell ⟨X, 2, none⟩ (.int .i64 0)).setCell ⟨X, 3, none⟩ (.int .i64 (-1))).heap[X]? = some (.cells #[.int .i64 0, .int .i64 0, .int .i64 0, .int .i64 (-1)] 77 (0, 0))) := Lib.hid (block_put 3 _ (block_put 2 _ (block_put 1 _ (block_put 0 _ HR0.out))))
   have HG : Hid (Below W.heap.size W ((((W1.setCell ⟨X, 0, none⟩ (.int .i64 0)).setCell ⟨X, 1, none⟩ (.int .i64 0)).setCell ⟨X, 2, none⟩ (.int .i64 0)).setCell ⟨X, 3, none⟩ (.int .i64 (-1)))) := Lib.hid ((((HB0.out.setCell HO.out _).setCell HO.out _).setCell HO.out _).setCell HO.out _)
   go_wp2_with fail
   refine bodyPost_ret (v := .agg #[.int .i64 0, .int .i64 0, .int .i64 0, .int .i64 (-1)]) ?_ rfl ⟨rfl, HG.out⟩
   exact results_cell_row rfl _ _ X 77 _ (0, 0) _ rfl HF.out Try.underlying77 rfl (by kernel_rfl)
set_option maxHeartbeats 1000000 in
theorem rgrant_first (f : Fv) (d : Int) (W : World) (hf : Fok f) (hd : I64 d) (h0 : firstF f d ≠ 0) :
 Calls Try.prog 30 #[.agg (fcs f), .int .i64 d] W fun r w' => r = .returned (.tuple #[.agg (fcs (grantF f d)), .int .i64 (grantE f d)]) ∧ Below W.heap.size W w' := by
 rw [show grantF f d = f from if_neg (by unfold grantE; rw [if_pos h0]; exact h0), show grantE f d = firstF f d from if_pos h0]
 have HW := Lib.hid fun W => rfirst_any f d W hd
 have z1 : (firstF f d != 0) = true := by simpa using h0
 have H0 := Lib.hid h0
 clear h0
 generalize firstF f d = z at *
 have HA := Lib.hid (Fx.start W f)
 obtain ⟨X, hX⟩ : ∃ X, W.heap.size = X := ⟨_, rfl⟩
 have HHX := Lib.hid hX
 rw [hX] at HA
 obtain ⟨lo, hi, ba, inf, sup, va⟩ := f
 clear hf hd
 go_enter Try.func30, Try.ntmps30
 go_wp2_with fail
 clear hX
 refine (HW.out _).mono ?_
 rintro e1 w1 ⟨rfl, hb1⟩
 replace HA := Lib.hid (HA.out.later hb1)
 generalize X + 1 = R at *
 clear hb1 HW
 obtain ⟨q0, q1, q2, q3, q4, q5⟩ := fcells HA.out.x
 obtain ⟨r0, r1, r2, r3, r4, r5⟩ := fcells HA.out.r
 obtain ⟨f0, f1, f2, f3, f4, f5⟩ := ffree HA.out.r
 have HF := Lib.hid (fstored (a' := .int .i64 lo) (b' := .int .i64 hi) (c' := .int .i64 ba) (d' := .int .i64 inf) (e' := .int .i64 sup) (f' := .int .i64 va) HA.out.r)
 have HG := Lib.hid (fkept HA.out.below HA.out.ord (.int .i64 lo) (.int .i64 hi) (.int .i64 ba) (.int .i64 inf) (.int .i64 sup) (.int .i64 va))
 clear HA
 go_wp2_with fail
 refine bodyPost_ret (v := .tuple #[.agg #[.int .i64 lo, .int .i64 hi, .int .i64 ba, .int .i64 inf, .int .i64 sup, .int .i64 va], .int .i64 z]) ?_ rfl ⟨rfl, HG.out⟩
 exact results_ff rfl _ _ R _ rfl _ rfl rfl HF.out
set_option maxHeartbeats 1000000 in
theorem rgrant_up (f : Fv) (d : Int) (W : World) (hf : Fok f) (hd : I64 d) (h0 : firstF f d = 0) (hp : 0 < d) :
 Calls Try.prog 30 #[.agg (fcs f), .int .i64 d] W fun r w' => r = .returned (.tuple #[.agg (fcs (grantF f d)), .int .i64 (grantE f d)]) ∧ Below W.heap.size W w' := by
 have HW := Lib.hid fun W => rfirst_any f d W hd
 rw [h0] at HW
 have HE : Hid (grantE f d = if I64 (f.sup + d) then (if f.sup + d ≤ f.hi then 0 else 3) else 2) := Lib.hid (by unfold grantE; rw [if_neg (by omega), if_pos hp])
 have HGF : Hid (grantF f d = if grantE f d = 0 then grantG f d else f) := Lib.hid rfl
 have HGG : Hid (grantG f d = ⟨f.lo, f.hi, f.ba, f.inf, f.sup + d, f.va + d⟩) := Lib.hid (if_pos hp)
 have HAD := Lib.hid fun W => radd_any f.sup d W hf.2.2.2.2.1.1 hf.2.2.2.2.1.2 hd.1 hd.2
 have hgd := (goodF_iff f).1 (firstF_zero h0).1
 have HHF := Lib.hid hf
 have HHD := Lib.hid hd
 have HHP := Lib.hid hp
 have hne := (firstF_zero h0).2.1
 have HNE := Lib.hid hne
 have t0 : ¬ d < 0 := by omega
 generalize grantF f d = GF at *
 generalize grantE f d = GE at *
 generalize grantG f d = GG at *
 have HA := Lib.hid (Fx.start W f)
 obtain ⟨X, hX⟩ : ∃ X, W.heap.size = X := ⟨_, rfl⟩
 have HHX := Lib.hid hX
 rw [hX] at HA
 obtain ⟨lo, hi, ba, inf, sup, va⟩ := f
 have HGD := Lib.hid hgd
 replace HE : Hid (GE = if I64 (sup + d) then (if sup + d ≤ hi then 0 else 3) else 2) := HE
 replace HGG : Hid (GG = ⟨lo, hi, ba, inf, sup + d, va + d⟩) := HGG
 clear hf hd h0 hp hgd hne
 go_enter Try.func30, Try.ntmps30
 go_wp2_with fail
 clear hX
 refine (HW.out _).mono ?_
 rintro e1 w1 ⟨rfl, hb1⟩
 replace HA := Lib.hid (HA.out.later hb1)
 generalize X + 1 = R at *
 clear hb1 HW
 have hbn : Below w1.heap.size w1 (w1.alloc (.cells #[.int .i64 lo, .int .i64 hi, .int .i64 ba, .int .i64 inf, .int .i64 sup, .int .i64 va] 42)) := (Below.refl _ _).alloc (Nat.le_refl _) _
 obtain ⟨q0, q1, q2, q3, q4, q5⟩ := fcells HA.out.x
 have HGN := Lib.hid (alloc_block w1 (.cells #[.int .i64 lo, .int .i64 hi, .int .i64 ba, .int .i64 inf, .int .i64 sup, .int .i64 va] 42))
 have HLT := Lib.hid (And.intro (block_lt HA.out.x) (block_lt HA.out.r))
 replace HA := Lib.hid (HA.out.later hbn)
 clear hbn
 go_upto_region 5 with (fail)
 clear q0 q1 q2 q3 q4 q5
 generalize w1.alloc (.cells #[.int .i64 lo, .int .i64 hi, .int .i64 ba, .int .i64 inf, .int .i64 sup, .int .i64 va] 42) = W1 at *
 generalize w1.heap.size = G at *
 obtain ⟨q0, q1, q2, q3, q4, q5⟩ := fcells HA.out.x
 go_wp2_with fail
 clear q0 q1 q2 q3 q4 q5
 refine (HAD.out _).mono ?_
 rintro e1 w3 ⟨rfl, hb1⟩
 replace HA := Lib.hid (HA.out.later hb1)
 replace HGN := Lib.hid (block_later HGN.out hb1)
 clear hb1
 simp only []
 have HSM : Hid (∀ n : Int, n = sup + d → GE = if I64 n then (if n ≤ hi then 0 else 3) else 2) := Lib.hid (by intro n hn; subst hn; exact HE.out)
 have HGM : Hid (∀ n : Int, n = sup + d → GG = ⟨lo, hi, ba, inf, n, va + d⟩) := Lib.hid (by intro n hn; subst hn; exact HGG.out)
 obtain ⟨n, hn⟩ : ∃ n, sup + d = n := ⟨_, rfl⟩
 replace HSM := Lib.hid (HSM.out n hn.symm)
 replace HGM := Lib.hid (HGM.out n hn.symm)
 have HN := Lib.hid hn
 clear HE HGG
 rw [hn]
 clear hn
 by_cases g1 : I64 n
 rotate_left
 · rw [okB_out n g1, val_out n g1]
   have he : GE = 2 := HSM.out.trans (if_neg g1)
   have hf : GF = ⟨lo, hi, ba, inf, sup, va⟩ := HGF.out.trans (if_neg (by rw [he]; decide))
   subst he hf
   clear HSM HGF g1
   obtain ⟨q0, q1, q2, q3, q4, q5⟩ := fcells HA.out.x
   obtain ⟨r0, r1, r2, r3, r4, r5⟩ := fcells HA.out.r
   obtain ⟨f0, f1, f2, f3, f4, f5⟩ := ffree HA.out.r
   have HF := Lib.hid (fstored (a' := .int .i64 lo) (b' := .int .i64 hi) (c' := .int .i64 ba) (d' := .int .i64 inf) (e' := .int .i64 sup) (f' := .int .i64 va) HA.out.r)
   have HG := Lib.hid (fkept HA.out.below HA.out.ord (.int .i64 lo) (.int .i64 hi) (.int .i64 ba) (.int .i64 inf) (.int .i64 sup) (.int .i64 va))
   clear HA
   go_wp2_with fail
   refine bodyPost_ret (v := .tuple #[.agg #[.int .i64 lo, .int .i64 hi, .int .i64 ba, .int .i64 inf, .int .i64 sup, .int .i64 va], .int .i64 2]) ?_ rfl ⟨rfl, HG.out⟩
   exact results_ff rfl _ _ R _ rfl _ rfl rfl HF.out
 rw [okB_in n g1, val_in n g1]
 obtain ⟨q0, q1, q2, q3, q4, q5⟩ := fcells HA.out.x
 by_cases g2 : n ≤ hi
 rotate_left
 · have he : GE = 3 := HSM.out.trans ((if_pos g1).trans (if_neg g2))
   have hf : GF = ⟨lo, hi, ba, inf, sup, va⟩ := HGF.out.trans (if_neg (by rw [he]; decide))
   subst he hf
   have t1 : ¬ n < lo := by have := HGD.out; have := HN.out; have := HHP.out; simp only [] at *; omega
   have t2 : hi < n := by omega
   clear HSM HGF g1 g2
   obtain ⟨r0, r1, r2, r3, r4, r5⟩ := fcells HA.out.r
   obtain ⟨f0, f1, f2, f3, f4, f5⟩ := ffree HA.out.r
   have HF := Lib.hid (fstored (a' := .int .i64 lo) (b' := .int .i64 hi) (c' := .int .i64 ba) (d' := .int .i64 inf) (e' := .int .i64 sup) (f' := .int .i64 va) HA.out.r)
   have HG := Lib.hid (fkept HA.out.below HA.out.ord (.int .i64 lo) (.int .i64 hi) (.int .i64 ba) (.int .i64 inf) (.int .i64 sup) (.int .i64 va))
   clear HA
   go_wp2_with fail
   refine bodyPost_ret (v := .tuple #[.agg #[.int .i64 lo, .int .i64 hi, .int .i64 ba, .int .i64 inf, .int .i64 sup, .int .i64 va], .int .i64 3]) ?_ rfl ⟨rfl, HG.out⟩
   exact results_ff rfl _ _ R _ rfl _ rfl rfl HF.out
 have t1 : ¬ n < lo := by have := HGD.out; have := HN.out; have := HHP.out; simp only [] at *; omega
 have t2 : ¬ hi < n := by have := HGD.out; have := HN.out; have := HHP.out; simp only [] at *; omega
 have he : GE = 0 := HSM.out.trans ((if_pos g1).trans (if_pos g2))
 have hnv : -9223372036854775808 ≤ va + d ∧ va + d ≤ 9223372036854775807 := by
  have h1 := HGD.out
  have h2 := HN.out
  have h3 := HHP.out
  have h4 := HHF.out
  unfold Fok I64 at h4
  unfold I64 at g1
  simp only [] at *
  omega
 have hw : GF = GG := HGF.out.trans (if_pos he)
 have hg := HGM.out
 obtain ⟨nv, hv⟩ : ∃ nv, va + d = nv := ⟨_, rfl⟩
 have ew : IntKind.i64.wrap (va + d) = nv := (i64w (va + d) hnv).trans hv
 rw [hv] at hg
 clear hv
 subst he hw hg
 have HP := Lib.hid (And.intro g1 g2)
 clear HSM HGF HGM hnv g1 g2
 obtain ⟨g0, g1, g2, g3, g4, g5⟩ := fcells HGN.out
 obtain ⟨f0, f1, f2, f3, f4, f5⟩ := ffree HGN.out
 have HGP : Hid ((((w3.setCell ⟨G, 4, none⟩ (.int .i64 n)).setCell ⟨G, 5, none⟩ (.int .i64 nv))).heap[G]? = some (.cells #[.int .i64 lo, .int .i64 hi, .int .i64 ba, .int .i64 inf, .int .i64 n, .int .i64 nv] 42 (0, 0))) := Lib.hid (block_put 5 _ (block_put 4 _ HGN.out))
 have hch : Chg (fun k => k = G) w3 (((w3.setCell ⟨G, 4, none⟩ (.int .i64 n)).setCell ⟨G, 5, none⟩ (.int .i64 nv))) := ((Chg.refl (fun k => k = G) w3).setCell ⟨G, 4, none⟩ _ fun _ => rfl).setCell ⟨G, 5, none⟩ _ fun _ => rfl
 have hrr := (hch.block R (block_lt HA.out.r) (Nat.ne_of_lt HLT.out.2)).trans HA.out.r
 have hbb := hch.below HA.out.below HA.out.below.size fun k hk => by have := HA.out.ord; have := HLT.out.2; omega
 have HRR := Lib.hid hrr
 have HBB := Lib.hid hbb
 have HOR := Lib.hid HA.out.ord
 clear hch hrr hbb HA
 have t3 := HHP.out
 have t4 : ¬ X = G := Nat.ne_of_lt HLT.out.1
 go_upto_region 17 with (fail)
 clear q0 q1 q2 q3 q4 q5 g0 g1 g2 g3 g4 g5 f0 f1 f2 f3 f4 f5
 generalize (w3.setCell ⟨G, 4, none⟩ (.int .i64 n)).setCell ⟨G, 5, none⟩ (.int .i64 nv) = w4 at *
 obtain ⟨q0, q1, q2, q3, q4, q5⟩ := fcells HGP.out
 obtain ⟨r0, r1, r2, r3, r4, r5⟩ := fcells HRR.out
 obtain ⟨f0, f1, f2, f3, f4, f5⟩ := ffree HRR.out
 have HF := Lib.hid (fstored (a' := .int .i64 lo) (b' := .int .i64 hi) (c' := .int .i64 ba) (d' := .int .i64 inf) (e' := .int .i64 n) (f' := .int .i64 nv) HRR.out)
 have HG := Lib.hid (fkept HBB.out HOR.out (.int .i64 lo) (.int .i64 hi) (.int .i64 ba) (.int .i64 inf) (.int .i64 n) (.int .i64 nv))
 go_wp2_with fail
 refine bodyPost_ret (v := .tuple #[.agg #[.int .i64 lo, .int .i64 hi, .int .i64 ba, .int .i64 inf, .int .i64 n, .int .i64 nv], .int .i64 0]) ?_ rfl ⟨rfl, HG.out⟩
 exact results_ff rfl _ _ R _ rfl _ rfl rfl HF.out
set_option maxHeartbeats 1000000 in
theorem rgrant_down (f : Fv) (d : Int) (W : World) (hf : Fok f) (hd : I64 d) (h0 : firstF f d = 0) (hp : ¬ 0 < d) :
 Calls Try.prog 30 #[.agg (fcs f), .int .i64 d] W fun r w' => r = .returned (.tuple #[.agg (fcs (grantF f d)), .int .i64 (grantE f d)]) ∧ Below W.heap.size W w' := by
 have HW := Lib.hid fun W => rfirst_any f d W hd
 rw [h0] at HW
 have HE : Hid (grantE f d = if I64 (f.inf + d) then (if f.lo ≤ f.inf + d then 0 else 3) else 2) := Lib.hid (by unfold grantE; rw [if_neg (by omega), if_neg hp])
 have HGF : Hid (grantF f d = if grantE f d = 0 then grantG f d else f) := Lib.hid rfl
 have HGG : Hid (grantG f d = ⟨f.lo, f.hi, f.ba, f.inf + d, f.sup, f.va + d⟩) := Lib.hid (if_neg hp)
 have HAD := Lib.hid fun W => radd_any f.inf d W hf.2.2.2.1.1 hf.2.2.2.1.2 hd.1 hd.2
 have hgd := (goodF_iff f).1 (firstF_zero h0).1
 have HHF := Lib.hid hf
 have HHD := Lib.hid hd
 have HHP := Lib.hid hp
 have hne := (firstF_zero h0).2.1
 have HNE := Lib.hid hne
 have t0 : d < 0 := by omega
 generalize grantF f d = GF at *
 generalize grantE f d = GE at *
 generalize grantG f d = GG at *
 have HA := Lib.hid (Fx.start W f)
 obtain ⟨X, hX⟩ : ∃ X, W.heap.size = X := ⟨_, rfl⟩
 have HHX := Lib.hid hX
 rw [hX] at HA
 obtain ⟨lo, hi, ba, inf, sup, va⟩ := f
 have HGD := Lib.hid hgd
 replace HE : Hid (GE = if I64 (inf + d) then (if lo ≤ inf + d then 0 else 3) else 2) := HE
 replace HGG : Hid (GG = ⟨lo, hi, ba, inf + d, sup, va + d⟩) := HGG
 clear hf hd h0 hp hgd hne
 go_enter Try.func30, Try.ntmps30
 go_wp2_with fail
 clear hX
 refine (HW.out _).mono ?_
 rintro e1 w1 ⟨rfl, hb1⟩
 replace HA := Lib.hid (HA.out.later hb1)
 generalize X + 1 = R at *
 clear hb1 HW
 have hbn : Below w1.heap.size w1 (w1.alloc (.cells #[.int .i64 lo, .int .i64 hi, .int .i64 ba, .int .i64 inf, .int .i64 sup, .int .i64 va] 42)) := (Below.refl _ _).alloc (Nat.le_refl _) _
 obtain ⟨q0, q1, q2, q3, q4, q5⟩ := fcells HA.out.x
 have HGN := Lib.hid (alloc_block w1 (.cells #[.int .i64 lo, .int .i64 hi, .int .i64 ba, .int .i64 inf, .int .i64 sup, .int .i64 va] 42))
 have HLT := Lib.hid (And.intro (block_lt HA.out.x) (block_lt HA.out.r))
 replace HA := Lib.hid (HA.out.later hbn)
 clear hbn
 go_upto_region 5 with (fail)
 clear q0 q1 q2 q3 q4 q5
 generalize w1.alloc (.cells #[.int .i64 lo, .int .i64 hi, .int .i64 ba, .int .i64 inf, .int .i64 sup, .int .i64 va] 42) = W1 at *
 generalize w1.heap.size = G at *
 obtain ⟨q0, q1, q2, q3, q4, q5⟩ := fcells HA.out.x
 go_wp2_with fail
 clear q0 q1 q2 q3 q4 q5
 refine (HAD.out _).mono ?_
 rintro e1 w3 ⟨rfl, hb1⟩
 replace HA := Lib.hid (HA.out.later hb1)
 replace HGN := Lib.hid (block_later HGN.out hb1)
 clear hb1
 simp only []
 have HSM : Hid (∀ n : Int, n = inf + d → GE = if I64 n then (if lo ≤ n then 0 else 3) else 2) := Lib.hid (by intro n hn; subst hn; exact HE.out)
 have HGM : Hid (∀ n : Int, n = inf + d → GG = ⟨lo, hi, ba, n, sup, va + d⟩) := Lib.hid (by intro n hn; subst hn; exact HGG.out)
 obtain ⟨n, hn⟩ : ∃ n, inf + d = n := ⟨_, rfl⟩
 replace HSM := Lib.hid (HSM.out n hn.symm)
 replace HGM := Lib.hid (HGM.out n hn.symm)
 have HN := Lib.hid hn
 clear HE HGG
 rw [hn]
 clear hn
 by_cases g1 : I64 n
 rotate_left
 · rw [okB_out n g1, val_out n g1]
   have he : GE = 2 := HSM.out.trans (if_neg g1)
   have hf : GF = ⟨lo, hi, ba, inf, sup, va⟩ := HGF.out.trans (if_neg (by rw [he]; decide))
   subst he hf
   clear HSM HGF g1
   obtain ⟨q0, q1, q2, q3, q4, q5⟩ := fcells HA.out.x
   obtain ⟨r0, r1, r2, r3, r4, r5⟩ := fcells HA.out.r
   obtain ⟨f0, f1, f2, f3, f4, f5⟩ := ffree HA.out.r
   have HF := Lib.hid (fstored (a' := .int .i64 lo) (b' := .int .i64 hi) (c' := .int .i64 ba) (d' := .int .i64 inf) (e' := .int .i64 sup) (f' := .int .i64 va) HA.out.r)
   have HG := Lib.hid (fkept HA.out.below HA.out.ord (.int .i64 lo) (.int .i64 hi) (.int .i64 ba) (.int .i64 inf) (.int .i64 sup) (.int .i64 va))
   clear HA
   go_wp2_with fail
   refine bodyPost_ret (v := .tuple #[.agg #[.int .i64 lo, .int .i64 hi, .int .i64 ba, .int .i64 inf, .int .i64 sup, .int .i64 va], .int .i64 2]) ?_ rfl ⟨rfl, HG.out⟩
   exact results_ff rfl _ _ R _ rfl _ rfl rfl HF.out
 rw [okB_in n g1, val_in n g1]
 obtain ⟨q0, q1, q2, q3, q4, q5⟩ := fcells HA.out.x
 by_cases g2 : lo ≤ n
 rotate_left
 · have he : GE = 3 := HSM.out.trans ((if_pos g1).trans (if_neg g2))
   have hf : GF = ⟨lo, hi, ba, inf, sup, va⟩ := HGF.out.trans (if_neg (by rw [he]; decide))
   subst he hf
   have t1 : n < lo := by omega
   clear HSM HGF g1 g2
   obtain ⟨r0, r1, r2, r3, r4, r5⟩ := fcells HA.out.r
   obtain ⟨f0, f1, f2, f3, f4, f5⟩ := ffree HA.out.r
   have HF := Lib.hid (fstored (a' := .int .i64 lo) (b' := .int .i64 hi) (c' := .int .i64 ba) (d' := .int .i64 inf) (e' := .int .i64 sup) (f' := .int .i64 va) HA.out.r)
   have HG := Lib.hid (fkept HA.out.below HA.out.ord (.int .i64 lo) (.int .i64 hi) (.int .i64 ba) (.int .i64 inf) (.int .i64 sup) (.int .i64 va))
   clear HA
   go_wp2_with fail
   refine bodyPost_ret (v := .tuple #[.agg #[.int .i64 lo, .int .i64 hi, .int .i64 ba, .int .i64 inf, .int .i64 sup, .int .i64 va], .int .i64 3]) ?_ rfl ⟨rfl, HG.out⟩
   exact results_ff rfl _ _ R _ rfl _ rfl rfl HF.out
 have t1 : ¬ n < lo := by have := HGD.out; have := HN.out; have := HHP.out; simp only [] at *; omega
 have t2 : ¬ hi < n := by have := HGD.out; have := HN.out; have := HHP.out; simp only [] at *; omega
 have he : GE = 0 := HSM.out.trans ((if_pos g1).trans (if_pos g2))
 have hnv : -9223372036854775808 ≤ va + d ∧ va + d ≤ 9223372036854775807 := by
  have h1 := HGD.out
  have h2 := HN.out
  have h3 := HHP.out
  have h4 := HHF.out
  unfold Fok I64 at h4
  unfold I64 at g1
  simp only [] at *
  omega
 have hw : GF = GG := HGF.out.trans (if_pos he)
 have hg := HGM.out
 obtain ⟨nv, hv⟩ : ∃ nv, va + d = nv := ⟨_, rfl⟩
 have ew : IntKind.i64.wrap (va + d) = nv := (i64w (va + d) hnv).trans hv
 rw [hv] at hg
 clear hv
 subst he hw hg
 have HP := Lib.hid (And.intro g1 g2)
 clear HSM HGF HGM hnv g1 g2
 obtain ⟨g0, g1, g2, g3, g4, g5⟩ := fcells HGN.out
 obtain ⟨f0, f1, f2, f3, f4, f5⟩ := ffree HGN.out
 have HGP : Hid ((((w3.setCell ⟨G, 3, none⟩ (.int .i64 n)).setCell ⟨G, 5, none⟩ (.int .i64 nv))).heap[G]? = some (.cells #[.int .i64 lo, .int .i64 hi, .int .i64 ba, .int .i64 n, .int .i64 sup, .int .i64 nv] 42 (0, 0))) := Lib.hid (block_put 5 _ (block_put 3 _ HGN.out))
 have hch : Chg (fun k => k = G) w3 (((w3.setCell ⟨G, 3, none⟩ (.int .i64 n)).setCell ⟨G, 5, none⟩ (.int .i64 nv))) := ((Chg.refl (fun k => k = G) w3).setCell ⟨G, 3, none⟩ _ fun _ => rfl).setCell ⟨G, 5, none⟩ _ fun _ => rfl
 have hrr := (hch.block R (block_lt HA.out.r) (Nat.ne_of_lt HLT.out.2)).trans HA.out.r
 have hbb := hch.below HA.out.below HA.out.below.size fun k hk => by have := HA.out.ord; have := HLT.out.2; omega
 have HRR := Lib.hid hrr
 have HBB := Lib.hid hbb
 have HOR := Lib.hid HA.out.ord
 clear hch hrr hbb HA
 have t3 := HHP.out
 have t4 : ¬ X = G := Nat.ne_of_lt HLT.out.1
 go_upto_region 17 with (fail)
 clear q0 q1 q2 q3 q4 q5 g0 g1 g2 g3 g4 g5 f0 f1 f2 f3 f4 f5
 generalize (w3.setCell ⟨G, 3, none⟩ (.int .i64 n)).setCell ⟨G, 5, none⟩ (.int .i64 nv) = w4 at *
 obtain ⟨q0, q1, q2, q3, q4, q5⟩ := fcells HGP.out
 obtain ⟨r0, r1, r2, r3, r4, r5⟩ := fcells HRR.out
 obtain ⟨f0, f1, f2, f3, f4, f5⟩ := ffree HRR.out
 have HF := Lib.hid (fstored (a' := .int .i64 lo) (b' := .int .i64 hi) (c' := .int .i64 ba) (d' := .int .i64 n) (e' := .int .i64 sup) (f' := .int .i64 nv) HRR.out)
 have HG := Lib.hid (fkept HBB.out HOR.out (.int .i64 lo) (.int .i64 hi) (.int .i64 ba) (.int .i64 n) (.int .i64 sup) (.int .i64 nv))
 go_wp2_with fail
 refine bodyPost_ret (v := .tuple #[.agg #[.int .i64 lo, .int .i64 hi, .int .i64 ba, .int .i64 n, .int .i64 sup, .int .i64 nv], .int .i64 0]) ?_ rfl ⟨rfl, HG.out⟩
 exact results_ff rfl _ _ R _ rfl _ rfl rfl HF.out
theorem rgrant_any (f : Fv) (d : Int) (W : World) (hf : Fok f) (hd : I64 d) :
 Calls Try.prog 30 #[.agg (fcs f), .int .i64 d] W fun r w' => r = .returned (.tuple #[.agg (fcs (grantF f d)), .int .i64 (grantE f d)]) ∧ Below W.heap.size W w' := by
 by_cases h0 : firstF f d = 0
 · by_cases hp : 0 < d
   · exact rgrant_up f d W hf hd h0 hp
   · exact rgrant_down f d W hf hd h0 hp
 · exact rgrant_first f d W hf hd h0
end Go.Proofs.Ytmdldbchdnkfcaa
