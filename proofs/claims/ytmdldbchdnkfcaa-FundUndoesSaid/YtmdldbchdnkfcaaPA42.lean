import Derived.Test.YtmdldbchdnkfcaaPA41
import Derived.Test.YtmdldbchdnkfcaaPA34
namespace Go.Proofs.Ytmdldbchdnkfcaa
open Go.RowKit Go.ChangeShapes Go.WideShapes
set_option linter.unusedVariables false
set_option linter.unusedSimpArgs false
set_option maxRecDepth 10000
theorem fdl_none (w : World) : FDL w none 0 0 [] := SlG.empty _
set_option maxHeartbeats 1000000 in
theorem nil_get (k : K) (W : World) : Calls Try.prog 21 #[.pointer none, .agg #[.int .u8 k.1, .int .u8 k.2.1, .int .u8 k.2.2]] W fun e w' => e = .returned (.tuple #[.agg (fcs fz), .bool false]) ∧ Below W.heap.size W w' := by
 obtain ⟨hb0, hx0, hr0⟩ := ftwo_boxes W #[.int .u8 k.1, .int .u8 k.2.1, .int .u8 k.2.2] #[.int .i64 0, .int .i64 0, .int .i64 0, .int .i64 0, .int .i64 0, .int .i64 0] 32 42
 have HB0 := Lib.hid hb0
 have HR0 := Lib.hid hr0
 obtain ⟨X, hX⟩ : ∃ X, W.heap.size = X := ⟨_, rfl⟩
 have HHX := Lib.hid hX
 rw [hX] at HR0
 clear hb0 hx0 hr0
 go_enter Try.func21, Try.ntmps21
 go_upto_region 1 with (fail)
 clear hX
 generalize (W.alloc (.cells #[.int .u8 k.1, .int .u8 k.2.1, .int .u8 k.2.2] 32)).alloc (.cells #[.int .i64 0, .int .i64 0, .int .i64 0, .int .i64 0, .int .i64 0, .int .i64 0] 42) = V0 at *
 have HO : Hid (W.heap.size ≤ X + 1) := Lib.hid (by rw [HHX.out]; omega)
 generalize X + 1 = R at *
 obtain ⟨r0, r1, r2, r3, r4, r5⟩ := fcells HR0.out
 obtain ⟨f0, f1, f2, f3, f4, f5⟩ := ffree HR0.out
 have HFS := Lib.hid (fstored (a' := .int .i64 0) (b' := .int .i64 0) (c' := .int .i64 0) (d' := .int .i64 0) (e' := .int .i64 0) (f' := .int .i64 0) HR0.out)
 have HGS := Lib.hid (fkept HB0.out HO.out (.int .i64 0) (.int .i64 0) (.int .i64 0) (.int .i64 0) (.int .i64 0) (.int .i64 0))
 go_wp2_with fail
 refine bodyPost_ret (v := .tuple #[.agg #[.int .i64 0, .int .i64 0, .int .i64 0, .int .i64 0, .int .i64 0, .int .i64 0], .bool false]) ?_ rfl ⟨rfl, HGS.out⟩
 exact results_ff rfl _ _ R _ rfl _ rfl rfl HFS.out
theorem nil_keys (W : World) : Calls Try.prog 22 #[.pointer none] W fun e w' => e = .returned (.slice none 0 0) ∧ w' = W := by
 go_enter Try.func22, Try.ntmps22
 go_wp2_with fail
 go_ret
 exact ⟨rfl, rfl⟩
theorem nil_change_grant (k : K) (cb : Nat) (W : World) :
 Calls Try.prog 38 #[.pointer none, .agg #[.int .u8 k.1, .int .u8 k.2.1, .int .u8 k.2.2], .func (.func 42) #[] #[.pointer (some ⟨cb, 0, none⟩)]] W fun e w' => e = .returned (.int .i64 10) ∧ Below W.heap.size W w' := by
 have hb0 : Below W.heap.size W (W.alloc (.cells #[.int .u8 k.1, .int .u8 k.2.1, .int .u8 k.2.2] 32)) := (Below.refl _ _).alloc (Nat.le_refl _) _
 have HB0 := Lib.hid hb0
 have HX0 := Lib.hid (alloc_block W (.cells #[.int .u8 k.1, .int .u8 k.2.1, .int .u8 k.2.2] 32))
 have HG := Lib.hid fun w => nil_get k w
 obtain ⟨X, hX⟩ : ∃ X, W.heap.size = X := ⟨_, rfl⟩
 have HHX := Lib.hid hX
 rw [hX] at HX0
 clear hb0
 go_enter Try.func38, Try.ntmps38
 go_upto_region 1 with (fail)
 clear hX
 generalize W.alloc (.cells #[.int .u8 k.1, .int .u8 k.2.1, .int .u8 k.2.2] 32) = V0 at *
 have x0 := block_cell (j := 0) HX0.out rfl
 have x1 := block_cell (j := 1) HX0.out rfl
 have x2 := block_cell (j := 2) HX0.out rfl
 go_wp2_with fail
 clear x0 x1 x2
 refine (HG.out _).mono ?_
 rintro e1 w1 ⟨rfl, hb1⟩
 have HB1 := Lib.hid (HB0.out.trans (hb1.mono HB0.out.size))
 clear hb1 HG
 have HBA := Lib.hid (HB1.out.alloc HB1.out.size (.cells #[.int .i64 0, .int .i64 0, .int .i64 0, .int .i64 0, .int .i64 0, .int .i64 0] 42))
 go_wp2_with fail
 go_ret
 exact ⟨rfl, HBA.out⟩
theorem nil_change_undo (k : K) (cb : Nat) (W : World) :
 Calls Try.prog 38 #[.pointer none, .agg #[.int .u8 k.1, .int .u8 k.2.1, .int .u8 k.2.2], .func (.func 44) #[] #[.pointer (some ⟨cb, 0, none⟩)]] W fun e w' => e = .returned (.int .i64 10) ∧ Below W.heap.size W w' := by
 have hb0 : Below W.heap.size W (W.alloc (.cells #[.int .u8 k.1, .int .u8 k.2.1, .int .u8 k.2.2] 32)) := (Below.refl _ _).alloc (Nat.le_refl _) _
 have HB0 := Lib.hid hb0
 have HX0 := Lib.hid (alloc_block W (.cells #[.int .u8 k.1, .int .u8 k.2.1, .int .u8 k.2.2] 32))
 have HG := Lib.hid fun w => nil_get k w
 obtain ⟨X, hX⟩ : ∃ X, W.heap.size = X := ⟨_, rfl⟩
 have HHX := Lib.hid hX
 rw [hX] at HX0
 clear hb0
 go_enter Try.func38, Try.ntmps38
 go_upto_region 1 with (fail)
 clear hX
 generalize W.alloc (.cells #[.int .u8 k.1, .int .u8 k.2.1, .int .u8 k.2.2] 32) = V0 at *
 have x0 := block_cell (j := 0) HX0.out rfl
 have x1 := block_cell (j := 1) HX0.out rfl
 have x2 := block_cell (j := 2) HX0.out rfl
 go_wp2_with fail
 clear x0 x1 x2
 refine (HG.out _).mono ?_
 rintro e1 w1 ⟨rfl, hb1⟩
 have HB1 := Lib.hid (HB0.out.trans (hb1.mono HB0.out.size))
 clear hb1 HG
 have HBA := Lib.hid (HB1.out.alloc HB1.out.size (.cells #[.int .i64 0, .int .i64 0, .int .i64 0, .int .i64 0, .int .i64 0, .int .i64 0] 42))
 go_wp2_with fail
 go_ret
 exact ⟨rfl, HBA.out⟩
theorem nil_change_settle (k : K) (cb : Nat) (W : World) :
 Calls Try.prog 38 #[.pointer none, .agg #[.int .u8 k.1, .int .u8 k.2.1, .int .u8 k.2.2], .func (.func 52) #[] #[.pointer (some ⟨cb, 0, none⟩)]] W fun e w' => e = .returned (.int .i64 10) ∧ Below W.heap.size W w' := by
 have hb0 : Below W.heap.size W (W.alloc (.cells #[.int .u8 k.1, .int .u8 k.2.1, .int .u8 k.2.2] 32)) := (Below.refl _ _).alloc (Nat.le_refl _) _
 have HB0 := Lib.hid hb0
 have HX0 := Lib.hid (alloc_block W (.cells #[.int .u8 k.1, .int .u8 k.2.1, .int .u8 k.2.2] 32))
 have HG := Lib.hid fun w => nil_get k w
 obtain ⟨X, hX⟩ : ∃ X, W.heap.size = X := ⟨_, rfl⟩
 have HHX := Lib.hid hX
 rw [hX] at HX0
 clear hb0
 go_enter Try.func38, Try.ntmps38
 go_upto_region 1 with (fail)
 clear hX
 generalize W.alloc (.cells #[.int .u8 k.1, .int .u8 k.2.1, .int .u8 k.2.2] 32) = V0 at *
 have x0 := block_cell (j := 0) HX0.out rfl
 have x1 := block_cell (j := 1) HX0.out rfl
 have x2 := block_cell (j := 2) HX0.out rfl
 go_wp2_with fail
 clear x0 x1 x2
 refine (HG.out _).mono ?_
 rintro e1 w1 ⟨rfl, hb1⟩
 have HB1 := Lib.hid (HB0.out.trans (hb1.mono HB0.out.size))
 clear hb1 HG
 have HBA := Lib.hid (HB1.out.alloc HB1.out.size (.cells #[.int .i64 0, .int .i64 0, .int .i64 0, .int .i64 0, .int .i64 0, .int .i64 0] 42))
 go_wp2_with fail
 go_ret
 exact ⟨rfl, HBA.out⟩
theorem nil_change_back (k : K) (cb : Nat) (W : World) :
 Calls Try.prog 38 #[.pointer none, .agg #[.int .u8 k.1, .int .u8 k.2.1, .int .u8 k.2.2], .func (.func 54) #[] #[.pointer (some ⟨cb, 0, none⟩)]] W fun e w' => e = .returned (.int .i64 10) ∧ Below W.heap.size W w' := by
 have hb0 : Below W.heap.size W (W.alloc (.cells #[.int .u8 k.1, .int .u8 k.2.1, .int .u8 k.2.2] 32)) := (Below.refl _ _).alloc (Nat.le_refl _) _
 have HB0 := Lib.hid hb0
 have HX0 := Lib.hid (alloc_block W (.cells #[.int .u8 k.1, .int .u8 k.2.1, .int .u8 k.2.2] 32))
 have HG := Lib.hid fun w => nil_get k w
 obtain ⟨X, hX⟩ : ∃ X, W.heap.size = X := ⟨_, rfl⟩
 have HHX := Lib.hid hX
 rw [hX] at HX0
 clear hb0
 go_enter Try.func38, Try.ntmps38
 go_upto_region 1 with (fail)
 clear hX
 generalize W.alloc (.cells #[.int .u8 k.1, .int .u8 k.2.1, .int .u8 k.2.2] 32) = V0 at *
 have x0 := block_cell (j := 0) HX0.out rfl
 have x1 := block_cell (j := 1) HX0.out rfl
 have x2 := block_cell (j := 2) HX0.out rfl
 go_wp2_with fail
 clear x0 x1 x2
 refine (HG.out _).mono ?_
 rintro e1 w1 ⟨rfl, hb1⟩
 have HB1 := Lib.hid (HB0.out.trans (hb1.mono HB0.out.size))
 clear hb1 HG
 have HBA := Lib.hid (HB1.out.alloc HB1.out.size (.cells #[.int .i64 0, .int .i64 0, .int .i64 0, .int .i64 0, .int .i64 0, .int .i64 0] 42))
 go_wp2_with fail
 go_ret
 exact ⟨rfl, HBA.out⟩
theorem nil_change_forth (k : K) (cb : Nat) (W : World) :
 Calls Try.prog 38 #[.pointer none, .agg #[.int .u8 k.1, .int .u8 k.2.1, .int .u8 k.2.2], .func (.func 56) #[] #[.pointer (some ⟨cb, 0, none⟩)]] W fun e w' => e = .returned (.int .i64 10) ∧ Below W.heap.size W w' := by
 have hb0 : Below W.heap.size W (W.alloc (.cells #[.int .u8 k.1, .int .u8 k.2.1, .int .u8 k.2.2] 32)) := (Below.refl _ _).alloc (Nat.le_refl _) _
 have HB0 := Lib.hid hb0
 have HX0 := Lib.hid (alloc_block W (.cells #[.int .u8 k.1, .int .u8 k.2.1, .int .u8 k.2.2] 32))
 have HG := Lib.hid fun w => nil_get k w
 obtain ⟨X, hX⟩ : ∃ X, W.heap.size = X := ⟨_, rfl⟩
 have HHX := Lib.hid hX
 rw [hX] at HX0
 clear hb0
 go_enter Try.func38, Try.ntmps38
 go_upto_region 1 with (fail)
 clear hX
 generalize W.alloc (.cells #[.int .u8 k.1, .int .u8 k.2.1, .int .u8 k.2.2] 32) = V0 at *
 have x0 := block_cell (j := 0) HX0.out rfl
 have x1 := block_cell (j := 1) HX0.out rfl
 have x2 := block_cell (j := 2) HX0.out rfl
 go_wp2_with fail
 clear x0 x1 x2
 refine (HG.out _).mono ?_
 rintro e1 w1 ⟨rfl, hb1⟩
 have HB1 := Lib.hid (HB0.out.trans (hb1.mono HB0.out.size))
 clear hb1 HG
 have HBA := Lib.hid (HB1.out.alloc HB1.out.size (.cells #[.int .i64 0, .int .i64 0, .int .i64 0, .int .i64 0, .int .i64 0, .int .i64 0] 42))
 go_wp2_with fail
 go_ret
 exact ⟨rfl, HBA.out⟩
theorem nil_change_drop (k : K) (cb : Nat) (W : World) :
 Calls Try.prog 38 #[.pointer none, .agg #[.int .u8 k.1, .int .u8 k.2.1, .int .u8 k.2.2], .func (.func 58) #[] #[.pointer (some ⟨cb, 0, none⟩)]] W fun e w' => e = .returned (.int .i64 10) ∧ Below W.heap.size W w' := by
 have hb0 : Below W.heap.size W (W.alloc (.cells #[.int .u8 k.1, .int .u8 k.2.1, .int .u8 k.2.2] 32)) := (Below.refl _ _).alloc (Nat.le_refl _) _
 have HB0 := Lib.hid hb0
 have HX0 := Lib.hid (alloc_block W (.cells #[.int .u8 k.1, .int .u8 k.2.1, .int .u8 k.2.2] 32))
 have HG := Lib.hid fun w => nil_get k w
 obtain ⟨X, hX⟩ : ∃ X, W.heap.size = X := ⟨_, rfl⟩
 have HHX := Lib.hid hX
 rw [hX] at HX0
 clear hb0
 go_enter Try.func38, Try.ntmps38
 go_upto_region 1 with (fail)
 clear hX
 generalize W.alloc (.cells #[.int .u8 k.1, .int .u8 k.2.1, .int .u8 k.2.2] 32) = V0 at *
 have x0 := block_cell (j := 0) HX0.out rfl
 have x1 := block_cell (j := 1) HX0.out rfl
 have x2 := block_cell (j := 2) HX0.out rfl
 go_wp2_with fail
 clear x0 x1 x2
 refine (HG.out _).mono ?_
 rintro e1 w1 ⟨rfl, hb1⟩
 have HB1 := Lib.hid (HB0.out.trans (hb1.mono HB0.out.size))
 clear hb1 HG
 have HBA := Lib.hid (HB1.out.alloc HB1.out.size (.cells #[.int .i64 0, .int .i64 0, .int .i64 0, .int .i64 0, .int .i64 0, .int .i64 0] 42))
 go_wp2_with fail
 go_ret
 exact ⟨rfl, HBA.out⟩
theorem nil_change_set (k : K) (cb : Nat) (W : World) :
 Calls Try.prog 38 #[.pointer none, .agg #[.int .u8 k.1, .int .u8 k.2.1, .int .u8 k.2.2], .func (.func 39) #[] #[.pointer (some ⟨cb, 0, none⟩)]] W fun e w' => e = .returned (.int .i64 10) ∧ Below W.heap.size W w' := by
 have hb0 : Below W.heap.size W (W.alloc (.cells #[.int .u8 k.1, .int .u8 k.2.1, .int .u8 k.2.2] 32)) := (Below.refl _ _).alloc (Nat.le_refl _) _
 have HB0 := Lib.hid hb0
 have HX0 := Lib.hid (alloc_block W (.cells #[.int .u8 k.1, .int .u8 k.2.1, .int .u8 k.2.2] 32))
 have HG := Lib.hid fun w => nil_get k w
 obtain ⟨X, hX⟩ : ∃ X, W.heap.size = X := ⟨_, rfl⟩
 have HHX := Lib.hid hX
 rw [hX] at HX0
 clear hb0
 go_enter Try.func38, Try.ntmps38
 go_upto_region 1 with (fail)
 clear hX
 generalize W.alloc (.cells #[.int .u8 k.1, .int .u8 k.2.1, .int .u8 k.2.2] 32) = V0 at *
 have x0 := block_cell (j := 0) HX0.out rfl
 have x1 := block_cell (j := 1) HX0.out rfl
 have x2 := block_cell (j := 2) HX0.out rfl
 go_wp2_with fail
 clear x0 x1 x2
 refine (HG.out _).mono ?_
 rintro e1 w1 ⟨rfl, hb1⟩
 have HB1 := Lib.hid (HB0.out.trans (hb1.mono HB0.out.size))
 clear hb1 HG
 have HBA := Lib.hid (HB1.out.alloc HB1.out.size (.cells #[.int .i64 0, .int .i64 0, .int .i64 0, .int .i64 0, .int .i64 0, .int .i64 0] 42))
 go_wp2_with fail
 go_ret
 exact ⟨rfl, HBA.out⟩
theorem nil_grant (k : K) (d : Int) (W : World) : Calls Try.prog 19 #[.pointer none, .agg #[.int .u8 k.1, .int .u8 k.2.1, .int .u8 k.2.2, .int .i64 d]] W fun e w' => e = .returned (.int .i64 10) ∧ Below W.heap.size W w' := by
 have hb0 : Below W.heap.size W (W.alloc (.cells #[.int .u8 k.1, .int .u8 k.2.1, .int .u8 k.2.2, .int .i64 d] 34)) := (Below.refl _ _).alloc (Nat.le_refl _) _
 have HB0 := Lib.hid hb0
 have HX0 := Lib.hid (alloc_block W (.cells #[.int .u8 k.1, .int .u8 k.2.1, .int .u8 k.2.2, .int .i64 d] 34))
 obtain ⟨X, hX⟩ : ∃ X, W.heap.size = X := ⟨_, rfl⟩
 have HHX := Lib.hid hX
 rw [hX] at HX0
 have HC := Lib.hid fun w => nil_change_grant k X w
 clear hb0
 go_enter Try.func19, Try.ntmps19
 go_upto_region 1 with (fail)
 clear hX
 generalize W.alloc (.cells #[.int .u8 k.1, .int .u8 k.2.1, .int .u8 k.2.2, .int .i64 d] 34) = V0 at *
 have x0 := block_cell (j := 0) HX0.out rfl
 have x1 := block_cell (j := 1) HX0.out rfl
 have x2 := block_cell (j := 2) HX0.out rfl
 go_wp2_with fail
 clear x0 x1 x2
 refine (HC.out _).mono ?_
 rintro e1 w1 ⟨rfl, hb1⟩
 have HB1 := Lib.hid (HB0.out.trans (hb1.mono HB0.out.size))
 clear hb1 HC
 go_wp2_with fail
 go_ret
 exact ⟨rfl, HB1.out⟩
theorem nil_undo (k : K) (d : Int) (W : World) : Calls Try.prog 20 #[.pointer none, .agg #[.int .u8 k.1, .int .u8 k.2.1, .int .u8 k.2.2, .int .i64 d]] W fun e w' => e = .returned (.int .i64 10) ∧ Below W.heap.size W w' := by
 have hb0 : Below W.heap.size W (W.alloc (.cells #[.int .u8 k.1, .int .u8 k.2.1, .int .u8 k.2.2, .int .i64 d] 34)) := (Below.refl _ _).alloc (Nat.le_refl _) _
 have HB0 := Lib.hid hb0
 have HX0 := Lib.hid (alloc_block W (.cells #[.int .u8 k.1, .int .u8 k.2.1, .int .u8 k.2.2, .int .i64 d] 34))
 obtain ⟨X, hX⟩ : ∃ X, W.heap.size = X := ⟨_, rfl⟩
 have HHX := Lib.hid hX
 rw [hX] at HX0
 have HC := Lib.hid fun w => nil_change_undo k X w
 clear hb0
 go_enter Try.func20, Try.ntmps20
 go_upto_region 1 with (fail)
 clear hX
 generalize W.alloc (.cells #[.int .u8 k.1, .int .u8 k.2.1, .int .u8 k.2.2, .int .i64 d] 34) = V0 at *
 have x0 := block_cell (j := 0) HX0.out rfl
 have x1 := block_cell (j := 1) HX0.out rfl
 have x2 := block_cell (j := 2) HX0.out rfl
 go_wp2_with fail
 clear x0 x1 x2
 refine (HC.out _).mono ?_
 rintro e1 w1 ⟨rfl, hb1⟩
 have HB1 := Lib.hid (HB0.out.trans (hb1.mono HB0.out.size))
 clear hb1 HC
 go_wp2_with fail
 go_ret
 exact ⟨rfl, HB1.out⟩
theorem nil_settle (k : K) (d : Int) (W : World) : Calls Try.prog 33 #[.pointer none, .agg #[.int .u8 k.1, .int .u8 k.2.1, .int .u8 k.2.2, .int .i64 d]] W fun e w' => e = .returned (.int .i64 10) ∧ Below W.heap.size W w' := by
 have hb0 : Below W.heap.size W (W.alloc (.cells #[.int .u8 k.1, .int .u8 k.2.1, .int .u8 k.2.2, .int .i64 d] 34)) := (Below.refl _ _).alloc (Nat.le_refl _) _
 have HB0 := Lib.hid hb0
 have HX0 := Lib.hid (alloc_block W (.cells #[.int .u8 k.1, .int .u8 k.2.1, .int .u8 k.2.2, .int .i64 d] 34))
 obtain ⟨X, hX⟩ : ∃ X, W.heap.size = X := ⟨_, rfl⟩
 have HHX := Lib.hid hX
 rw [hX] at HX0
 have HC := Lib.hid fun w => nil_change_settle k X w
 clear hb0
 go_enter Try.func33, Try.ntmps33
 go_upto_region 1 with (fail)
 clear hX
 generalize W.alloc (.cells #[.int .u8 k.1, .int .u8 k.2.1, .int .u8 k.2.2, .int .i64 d] 34) = V0 at *
 have x0 := block_cell (j := 0) HX0.out rfl
 have x1 := block_cell (j := 1) HX0.out rfl
 have x2 := block_cell (j := 2) HX0.out rfl
 go_wp2_with fail
 clear x0 x1 x2
 refine (HC.out _).mono ?_
 rintro e1 w1 ⟨rfl, hb1⟩
 have HB1 := Lib.hid (HB0.out.trans (hb1.mono HB0.out.size))
 clear hb1 HC
 go_wp2_with fail
 go_ret
 exact ⟨rfl, HB1.out⟩
theorem nil_back (k : K) (d : Int) (W : World) : Calls Try.prog 34 #[.pointer none, .agg #[.int .u8 k.1, .int .u8 k.2.1, .int .u8 k.2.2, .int .i64 d]] W fun e w' => e = .returned (.int .i64 10) ∧ Below W.heap.size W w' := by
 have hb0 : Below W.heap.size W (W.alloc (.cells #[.int .u8 k.1, .int .u8 k.2.1, .int .u8 k.2.2, .int .i64 d] 34)) := (Below.refl _ _).alloc (Nat.le_refl _) _
 have HB0 := Lib.hid hb0
 have HX0 := Lib.hid (alloc_block W (.cells #[.int .u8 k.1, .int .u8 k.2.1, .int .u8 k.2.2, .int .i64 d] 34))
 obtain ⟨X, hX⟩ : ∃ X, W.heap.size = X := ⟨_, rfl⟩
 have HHX := Lib.hid hX
 rw [hX] at HX0
 have HC := Lib.hid fun w => nil_change_back k X w
 clear hb0
 go_enter Try.func34, Try.ntmps34
 go_upto_region 1 with (fail)
 clear hX
 generalize W.alloc (.cells #[.int .u8 k.1, .int .u8 k.2.1, .int .u8 k.2.2, .int .i64 d] 34) = V0 at *
 have x0 := block_cell (j := 0) HX0.out rfl
 have x1 := block_cell (j := 1) HX0.out rfl
 have x2 := block_cell (j := 2) HX0.out rfl
 go_wp2_with fail
 clear x0 x1 x2
 refine (HC.out _).mono ?_
 rintro e1 w1 ⟨rfl, hb1⟩
 have HB1 := Lib.hid (HB0.out.trans (hb1.mono HB0.out.size))
 clear hb1 HC
 go_wp2_with fail
 go_ret
 exact ⟨rfl, HB1.out⟩
theorem nil_forth (k : K) (d : Int) (W : World) : Calls Try.prog 35 #[.pointer none, .agg #[.int .u8 k.1, .int .u8 k.2.1, .int .u8 k.2.2, .int .i64 d]] W fun e w' => e = .returned (.int .i64 10) ∧ Below W.heap.size W w' := by
 have hb0 : Below W.heap.size W (W.alloc (.cells #[.int .u8 k.1, .int .u8 k.2.1, .int .u8 k.2.2, .int .i64 d] 34)) := (Below.refl _ _).alloc (Nat.le_refl _) _
 have HB0 := Lib.hid hb0
 have HX0 := Lib.hid (alloc_block W (.cells #[.int .u8 k.1, .int .u8 k.2.1, .int .u8 k.2.2, .int .i64 d] 34))
 obtain ⟨X, hX⟩ : ∃ X, W.heap.size = X := ⟨_, rfl⟩
 have HHX := Lib.hid hX
 rw [hX] at HX0
 have HC := Lib.hid fun w => nil_change_forth k X w
 clear hb0
 go_enter Try.func35, Try.ntmps35
 go_upto_region 1 with (fail)
 clear hX
 generalize W.alloc (.cells #[.int .u8 k.1, .int .u8 k.2.1, .int .u8 k.2.2, .int .i64 d] 34) = V0 at *
 have x0 := block_cell (j := 0) HX0.out rfl
 have x1 := block_cell (j := 1) HX0.out rfl
 have x2 := block_cell (j := 2) HX0.out rfl
 go_wp2_with fail
 clear x0 x1 x2
 refine (HC.out _).mono ?_
 rintro e1 w1 ⟨rfl, hb1⟩
 have HB1 := Lib.hid (HB0.out.trans (hb1.mono HB0.out.size))
 clear hb1 HC
 go_wp2_with fail
 go_ret
 exact ⟨rfl, HB1.out⟩
theorem nil_drop (k : K) (d : Int) (W : World) : Calls Try.prog 36 #[.pointer none, .agg #[.int .u8 k.1, .int .u8 k.2.1, .int .u8 k.2.2, .int .i64 d]] W fun e w' => e = .returned (.int .i64 10) ∧ Below W.heap.size W w' := by
 have hb0 : Below W.heap.size W (W.alloc (.cells #[.int .u8 k.1, .int .u8 k.2.1, .int .u8 k.2.2, .int .i64 d] 34)) := (Below.refl _ _).alloc (Nat.le_refl _) _
 have HB0 := Lib.hid hb0
 have HX0 := Lib.hid (alloc_block W (.cells #[.int .u8 k.1, .int .u8 k.2.1, .int .u8 k.2.2, .int .i64 d] 34))
 obtain ⟨X, hX⟩ : ∃ X, W.heap.size = X := ⟨_, rfl⟩
 have HHX := Lib.hid hX
 rw [hX] at HX0
 have HC := Lib.hid fun w => nil_change_drop k X w
 clear hb0
 go_enter Try.func36, Try.ntmps36
 go_upto_region 1 with (fail)
 clear hX
 generalize W.alloc (.cells #[.int .u8 k.1, .int .u8 k.2.1, .int .u8 k.2.2, .int .i64 d] 34) = V0 at *
 have x0 := block_cell (j := 0) HX0.out rfl
 have x1 := block_cell (j := 1) HX0.out rfl
 have x2 := block_cell (j := 2) HX0.out rfl
 go_wp2_with fail
 clear x0 x1 x2
 refine (HC.out _).mono ?_
 rintro e1 w1 ⟨rfl, hb1⟩
 have HB1 := Lib.hid (HB0.out.trans (hb1.mono HB0.out.size))
 clear hb1 HC
 go_wp2_with fail
 go_ret
 exact ⟨rfl, HB1.out⟩
theorem nil_set (k : K) (x : Fv) (W : World) : Calls Try.prog 15 #[.pointer none, .agg #[.int .u8 k.1, .int .u8 k.2.1, .int .u8 k.2.2], .agg (fcs x)] W fun e w' => e = .returned (.int .i64 10) ∧ Below W.heap.size W w' := by
 obtain ⟨hb0, hx0, hy0⟩ := ftwo_boxes W #[.int .u8 k.1, .int .u8 k.2.1, .int .u8 k.2.2] (fcs x) 32 42
 have HB0 := Lib.hid hb0
 have HX0 := Lib.hid hx0
 obtain ⟨X, hX⟩ : ∃ X, W.heap.size = X := ⟨_, rfl⟩
 have HHX := Lib.hid hX
 rw [hX] at HX0
 obtain ⟨v1, v2, v3, v4, v5, v6⟩ := x
 have HC := Lib.hid fun w => nil_change_set k (X + 1) w
 clear hb0 hx0 hy0
 go_enter Try.func15, Try.ntmps15
 go_upto_region 1 with (fail)
 clear hX
 generalize (W.alloc (.cells #[.int .u8 k.1, .int .u8 k.2.1, .int .u8 k.2.2] 32)).alloc (.cells #[.int .i64 v1, .int .i64 v2, .int .i64 v3, .int .i64 v4, .int .i64 v5, .int .i64 v6] 42) = V0 at *
 have x0 := block_cell (j := 0) HX0.out rfl
 have x1 := block_cell (j := 1) HX0.out rfl
 have x2 := block_cell (j := 2) HX0.out rfl
 go_wp2_with fail
 clear x0 x1 x2
 refine (HC.out _).mono ?_
 rintro e1 w1 ⟨rfl, hb1⟩
 have HB1 := Lib.hid (HB0.out.trans (hb1.mono HB0.out.size))
 clear hb1 HC
 go_wp2_with fail
 go_ret
 exact ⟨rfl, HB1.out⟩
theorem nil_copy (W : World) : Calls Try.prog 18 #[.pointer none] W fun e w' => ∃ B' Q', e = .returned (.pointer (some ⟨B', 0, none⟩)) ∧ Fu w' B' [] Q' ∧ (∀ j, Q' j → W.heap.size ≤ j) ∧ Below W.heap.size W w' := by
 have HC := Lib.hid (funew_any none 0 0 [] W (fdl_none W) (by omega) (fun x hx => by cases hx))
 go_enter Try.func18, Try.ntmps18
 go_wp2_with fail
 refine HC.out.mono ?_
 rintro e1 w1 ⟨B, Q, rfl, hf, hq, hb⟩
 have HF := Lib.hid (And.intro hf (And.intro hq hb))
 clear hf hq hb HC
 go_wp2_with fail
 go_ret
 exact ⟨B, Q, rfl, HF.out.1, HF.out.2.1, HF.out.2.2⟩
theorem fdoE_nil (c : Int) (k : K) (d : Int) : fdoE c [] k d = 10 := (fdoL_none (g_get_nil k)).2
set_option maxHeartbeats 2000000 in
theorem nil_try (W : World) (p : Option Addr) (n c : Nat) (L : List O) (hL : OL W p n c L) (hn : n ≤ 100) (hx : ∀ x ∈ L, Ook x) :
 Calls Try.prog 16 #[.pointer none, .slice p n c] W fun e w' => e = .returned (.int .i64 (if n = 0 then 0 else 10)) ∧ Below W.heap.size W w' := by
 have HL := Lib.hid hL
 have HOK := Lib.hid fun j (hj : j < n) => ok_at hx (show j < L.length by rw [hL.len]; exact hj)
 have hcap := hL.cap
 have hmax := hL.max
 unfold maxLen at hmax
 have HCP := Lib.hid (nil_copy W)
 clear hL hx
 go_enter Try.func16, Try.ntmps16
 go_wp2_with fail
 refine HCP.out.mono ?_
 rintro e1 w1 ⟨B1, Q1, rfl, hf1, hq1, hb1⟩
 have HF1 := Lib.hid hf1
 have HQ1 := Lib.hid hq1
 have HB1 := Lib.hid hb1
 clear hf1 hq1 hb1 HCP
 go_wp2_with fail
 go_loopw [13] (fun i wr => ∃ j : Nat, j ≤ n ∧ i = .int .i64 (j : Int) ∧ Hid (j = 0) ∧ Hid (Fu wr B1 [] Q1) ∧ Hid (Below W.heap.size W wr)) (fun i _ => n - (Go.RowKit.intOf i).toNat)
 case atStart => exact ⟨0, Nat.zero_le _, rfl, Lib.hid rfl, HF1, HB1⟩
 case round =>
  obtain ⟨j, hj, rfl, HJ, HFS, HB⟩ := hrel
  by_cases hlt : j < n
  · have t1 : (j : Int) < n := by omega
    obtain ⟨b, off, rfl, hbl, c0, c1, c2, c3⟩ := op_cells (HL.out.later HB.out) hlt
    have hxo := HOK.out j hlt
    generalize L.getD j o0 = x at *
    obtain ⟨k, d⟩ := x
    have hba : Below wr.heap.size wr (wr.alloc (.cells #[.int .u8 k.1, .int .u8 k.2.1, .int .u8 k.2.2, .int .i64 d] 34)) := (Below.refl _ _).alloc (Nat.le_refl _) _
    have HDA := Lib.hid (alloc_block wr (.cells #[.int .u8 k.1, .int .u8 k.2.1, .int .u8 k.2.2, .int .i64 d] 34))
    have HBA := Lib.hid (HB.out.trans (hba.mono HB.out.size))
    obtain ⟨T2, mb2, hft, hqe⟩ := HFS.out
    have HG := Lib.hid (fu_grant k hxo.1 d hxo.2 (wr.alloc (.cells #[.int .u8 k.1, .int .u8 k.2.1, .int .u8 k.2.2, .int .i64 d] 34)) B1 T2 mb2 [] (hft.later hba) FOk.nil (by simp))
    rw [fdoE_nil] at HG
    have HQQ := Lib.hid (show ∀ j, FuQ B1 T2 mb2 j → W.heap.size ≤ j from fun j hj => HQ1.out j (by rw [hqe]; exact hj))
    have HN0 : Hid (n ≠ 0) := Lib.hid (by omega)
    clear hba hft hqe hxo HB HFS
    go_upto_region 5 with (fail)
    clear c0 c1 c2 c3
    generalize wr.alloc (.cells #[.int .u8 k.1, .int .u8 k.2.1, .int .u8 k.2.2, .int .i64 d] 34) = W1 at *
    generalize wr.heap.size = D at *
    have d0 := block_cell (j := 0) HDA.out rfl
    have d1 := block_cell (j := 1) HDA.out rfl
    have d2 := block_cell (j := 2) HDA.out rfl
    have d3 := block_cell (j := 3) HDA.out rfl
    go_wp2_with fail
    clear d0 d1 d2 d3
    refine HG.out.mono ?_
    rintro e2 w2 ⟨rfl, Q2, hf2, hq2, ht2⟩
    have HB2 := Lib.hid (HBA.out.trans (ht2.below HBA.out.size HQQ.out))
    clear hf2 hq2 ht2 HG HBA
    go_wp2_with fail
    go_ret
    exact ⟨by first | (rw [if_neg HN0.out]; rfl) | rfl, HB2.out⟩
  · have hn0 : n = 0 := by have := HJ.out; omega
    have t1 : ¬ (j : Int) < n := by omega
    have HN0 := Lib.hid hn0
    clear hn0
    go_wp2_with fail
    go_ret
    exact ⟨by first | (rw [if_pos HN0.out]; rfl) | rfl, HB.out⟩
theorem fund_inst : FundI Fu where
 keep := fun h ht hs => h.keep ht hs
 lt := fun h => h.lt
 new := fun p n c L w hL hn hx => funew_any p n c L w hL hn hx
 get := fun w B M Q k h hk => by obtain ⟨T, mb, h1, rfl⟩ := h; exact fuget_any k hk w B T mb M h1
 keys := fun w B M Q h hn => by obtain ⟨T, mb, h1, rfl⟩ := h; exact fukeys_any w B T mb M h1 hn
 act := fun fn c ha w B M Q k d h hM hn hk hd => by
  obtain ⟨T, mb, h1, rfl⟩ := h
  cases ha with
  | grant => exact fu_grant k hk d hd w B T mb M h1 hM (by omega)
  | undo => exact fu_undo k hk d hd w B T mb M h1 hM (by omega)
  | settle => exact fu_settle k hk d hd w B T mb M h1 hM (by omega)
  | back => exact fu_back k hk d hd w B T mb M h1 hM (by omega)
  | forth => exact fu_forth k hk d hd w B T mb M h1 hM (by omega)
  | drop => exact fu_drop k hk d hd w B T mb M h1 hM (by omega)
 set := fun w B M Q k f h hM hn hk hf => by obtain ⟨T, mb, h1, rfl⟩ := h; exact fu_set k hk f w B T mb M h1 (by omega)
 try_ := fun w B M Q p n c L h hM hn hL hc hx => by obtain ⟨T, mb, h1, rfl⟩ := h; exact futry_any w B T mb M p n c L h1 hM hn hL hc hx
 copy := fun w B M Q h hM hn => by obtain ⟨T, mb, h1, rfl⟩ := h; exact fucopy_any w B T mb M h1
theorem fund_nil : FundNilI Fu where
 get := fun w k hk => nil_get k w
 keys := fun w => (nil_keys w).mono fun e w' h => ⟨none, 0, h.1, by rw [h.2]; exact Below.refl _ _⟩
 act := fun fn c ha w k d hk hd => by
  cases ha with
  | grant => exact nil_grant k d w
  | undo => exact nil_undo k d w
  | settle => exact nil_settle k d w
  | back => exact nil_back k d w
  | forth => exact nil_forth k d w
  | drop => exact nil_drop k d w
 set := fun w k f hk hf => nil_set k f w
 try_ := fun w p n c L hL hn hx => nil_try w p n c L hL hn hx
 copy := fun w => nil_copy w
end Go.Proofs.Ytmdldbchdnkfcaa
