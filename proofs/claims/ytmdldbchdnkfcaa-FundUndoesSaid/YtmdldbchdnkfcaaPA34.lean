import Derived.Test.YtmdldbchdnkfcaaPA33
namespace Go.Proofs.Ytmdldbchdnkfcaa
open Go.RowKit Go.ChangeShapes Go.WideShapes
set_option linter.unusedVariables false
set_option linter.unusedSimpArgs false
set_option maxRecDepth 10000
structure FundNilI (Fu : World → Nat → List FW → (Nat → Prop) → Prop) : Prop where
 get : ∀ (w : World) (k : K), Kok k → Calls Try.prog 21 #[.pointer none, .agg #[.int .u8 k.1, .int .u8 k.2.1, .int .u8 k.2.2]] w fun e w' => e = .returned (.tuple #[.agg (fcs fz), .bool false]) ∧ Below w.heap.size w w'
 keys : ∀ (w : World), Calls Try.prog 22 #[.pointer none] w fun e w' => ∃ r c, e = .returned (.slice r 0 c) ∧ Below w.heap.size w w'
 act : ∀ (fn : Nat) (c : Int), ActFn fn c → ∀ (w : World) (k : K) (d : Int), Kok k → I64 d → Calls Try.prog fn #[.pointer none, .agg #[.int .u8 k.1, .int .u8 k.2.1, .int .u8 k.2.2, .int .i64 d]] w fun e w' => e = .returned (.int .i64 10) ∧ Below w.heap.size w w'
 set : ∀ (w : World) (k : K) (f : Fv), Kok k → Fok f → Calls Try.prog 15 #[.pointer none, .agg #[.int .u8 k.1, .int .u8 k.2.1, .int .u8 k.2.2], .agg (fcs f)] w fun e w' => e = .returned (.int .i64 10) ∧ Below w.heap.size w w'
 try_ : ∀ (w : World) (p : Option Addr) (n c : Nat) (T : List O), OL w p n c T → n ≤ 100 → (∀ x ∈ T, Ook x) → Calls Try.prog 16 #[.pointer none, .slice p n c] w fun e w' => e = .returned (.int .i64 (if n = 0 then 0 else 10)) ∧ Below w.heap.size w w'
 copy : ∀ (w : World), Calls Try.prog 18 #[.pointer none] w fun e w' => ∃ B' Q', e = .returned (.pointer (some ⟨B', 0, none⟩)) ∧ Fu w' B' [] Q' ∧ (∀ j, Q' j → w.heap.size ≤ j) ∧ Below w.heap.size w w'
variable {Fu : World → Nat → List FW → (Nat → Prop) → Prop}
set_option maxHeartbeats 1000000 in
theorem fdnil_grant (I : FundNilI Fu) (a d : Int) (k : K) (w : World) (hk : Kok k) (hd : I64 d) (ha : 0 ≤ a) (hm : a % 6 = 0) :
 Calls Try.prog 12 #[.pointer none, .agg #[.int .u8 a, .int .u8 k.1, .int .u8 k.2.1, .int .u8 k.2.2, .int .i64 d]] w fun e w' => e = .returned (.int .i64 10) ∧ Below w.heap.size w w' := by
 have hb : Below w.heap.size w (w.alloc (.cells #[.int .u8 a, .int .u8 k.1, .int .u8 k.2.1, .int .u8 k.2.2, .int .i64 d] 36)) := (Below.refl _ _).alloc (Nat.le_refl _) _
 have hc := I.act _ _ ActFn.grant (w.alloc (.cells #[.int .u8 a, .int .u8 k.1, .int .u8 k.2.1, .int .u8 k.2.2, .int .i64 d] 36)) k d hk hd
 have HC := Lib.hid hc
 have HB := Lib.hid hb
 have HX := Lib.hid (alloc_block w (.cells #[.int .u8 a, .int .u8 k.1, .int .u8 k.2.1, .int .u8 k.2.2, .int .i64 d] 36))
 obtain ⟨X, hX⟩ : ∃ X, w.heap.size = X := ⟨_, rfl⟩
 have HHX := Lib.hid hX
 rw [hX] at HX
 have HM := Lib.hid hm
 clear hc hb hk hd hm
 go_enter Try.func12, Try.ntmps12
 go_upto_region 1 with (fail)
 clear hX
 generalize w.alloc (.cells #[.int .u8 a, .int .u8 k.1, .int .u8 k.2.1, .int .u8 k.2.2, .int .i64 d] 36) = W1 at *
 have x0 := block_cell (j := 0) HX.out rfl
 have x1 := block_cell (j := 1) HX.out rfl
 have x2 := block_cell (j := 2) HX.out rfl
 have x3 := block_cell (j := 3) HX.out rfl
 have x4 := block_cell (j := 4) HX.out rfl
 go_upto_region 2 with (fail)
 rw [HM.out]
 go_wp2_with fail
 clear x0 x1 x2 x3 x4
 refine HC.out.mono ?_
 rintro e1 w1 ⟨rfl, hact⟩
 have HACT := Lib.hid (HB.out.trans (hact.mono HB.out.size))
 clear hact HC
 go_wp2_with fail
 go_ret
 exact ⟨rfl, HACT.out⟩
set_option maxHeartbeats 1000000 in
theorem fdnil_undo (I : FundNilI Fu) (a d : Int) (k : K) (w : World) (hk : Kok k) (hd : I64 d) (ha : 0 ≤ a) (hm : a % 6 = 1) :
 Calls Try.prog 12 #[.pointer none, .agg #[.int .u8 a, .int .u8 k.1, .int .u8 k.2.1, .int .u8 k.2.2, .int .i64 d]] w fun e w' => e = .returned (.int .i64 10) ∧ Below w.heap.size w w' := by
 have hb : Below w.heap.size w (w.alloc (.cells #[.int .u8 a, .int .u8 k.1, .int .u8 k.2.1, .int .u8 k.2.2, .int .i64 d] 36)) := (Below.refl _ _).alloc (Nat.le_refl _) _
 have hc := I.act _ _ ActFn.undo (w.alloc (.cells #[.int .u8 a, .int .u8 k.1, .int .u8 k.2.1, .int .u8 k.2.2, .int .i64 d] 36)) k d hk hd
 have HC := Lib.hid hc
 have HB := Lib.hid hb
 have HX := Lib.hid (alloc_block w (.cells #[.int .u8 a, .int .u8 k.1, .int .u8 k.2.1, .int .u8 k.2.2, .int .i64 d] 36))
 obtain ⟨X, hX⟩ : ∃ X, w.heap.size = X := ⟨_, rfl⟩
 have HHX := Lib.hid hX
 rw [hX] at HX
 have HM := Lib.hid hm
 clear hc hb hk hd hm
 go_enter Try.func12, Try.ntmps12
 go_upto_region 1 with (fail)
 clear hX
 generalize w.alloc (.cells #[.int .u8 a, .int .u8 k.1, .int .u8 k.2.1, .int .u8 k.2.2, .int .i64 d] 36) = W1 at *
 have x0 := block_cell (j := 0) HX.out rfl
 have x1 := block_cell (j := 1) HX.out rfl
 have x2 := block_cell (j := 2) HX.out rfl
 have x3 := block_cell (j := 3) HX.out rfl
 have x4 := block_cell (j := 4) HX.out rfl
 go_upto_region 2 with (fail)
 rw [HM.out]
 go_wp2_with fail
 clear x0 x1 x2 x3 x4
 refine HC.out.mono ?_
 rintro e1 w1 ⟨rfl, hact⟩
 have HACT := Lib.hid (HB.out.trans (hact.mono HB.out.size))
 clear hact HC
 go_wp2_with fail
 go_ret
 exact ⟨rfl, HACT.out⟩
set_option maxHeartbeats 1000000 in
theorem fdnil_settle (I : FundNilI Fu) (a d : Int) (k : K) (w : World) (hk : Kok k) (hd : I64 d) (ha : 0 ≤ a) (hm : a % 6 = 2) :
 Calls Try.prog 12 #[.pointer none, .agg #[.int .u8 a, .int .u8 k.1, .int .u8 k.2.1, .int .u8 k.2.2, .int .i64 d]] w fun e w' => e = .returned (.int .i64 10) ∧ Below w.heap.size w w' := by
 have hb : Below w.heap.size w (w.alloc (.cells #[.int .u8 a, .int .u8 k.1, .int .u8 k.2.1, .int .u8 k.2.2, .int .i64 d] 36)) := (Below.refl _ _).alloc (Nat.le_refl _) _
 have hc := I.act _ _ ActFn.settle (w.alloc (.cells #[.int .u8 a, .int .u8 k.1, .int .u8 k.2.1, .int .u8 k.2.2, .int .i64 d] 36)) k d hk hd
 have HC := Lib.hid hc
 have HB := Lib.hid hb
 have HX := Lib.hid (alloc_block w (.cells #[.int .u8 a, .int .u8 k.1, .int .u8 k.2.1, .int .u8 k.2.2, .int .i64 d] 36))
 obtain ⟨X, hX⟩ : ∃ X, w.heap.size = X := ⟨_, rfl⟩
 have HHX := Lib.hid hX
 rw [hX] at HX
 have HM := Lib.hid hm
 clear hc hb hk hd hm
 go_enter Try.func12, Try.ntmps12
 go_upto_region 1 with (fail)
 clear hX
 generalize w.alloc (.cells #[.int .u8 a, .int .u8 k.1, .int .u8 k.2.1, .int .u8 k.2.2, .int .i64 d] 36) = W1 at *
 have x0 := block_cell (j := 0) HX.out rfl
 have x1 := block_cell (j := 1) HX.out rfl
 have x2 := block_cell (j := 2) HX.out rfl
 have x3 := block_cell (j := 3) HX.out rfl
 have x4 := block_cell (j := 4) HX.out rfl
 go_upto_region 2 with (fail)
 rw [HM.out]
 go_wp2_with fail
 clear x0 x1 x2 x3 x4
 refine HC.out.mono ?_
 rintro e1 w1 ⟨rfl, hact⟩
 have HACT := Lib.hid (HB.out.trans (hact.mono HB.out.size))
 clear hact HC
 go_wp2_with fail
 go_ret
 exact ⟨rfl, HACT.out⟩
set_option maxHeartbeats 1000000 in
theorem fdnil_back (I : FundNilI Fu) (a d : Int) (k : K) (w : World) (hk : Kok k) (hd : I64 d) (ha : 0 ≤ a) (hm : a % 6 = 3) :
 Calls Try.prog 12 #[.pointer none, .agg #[.int .u8 a, .int .u8 k.1, .int .u8 k.2.1, .int .u8 k.2.2, .int .i64 d]] w fun e w' => e = .returned (.int .i64 10) ∧ Below w.heap.size w w' := by
 have hb : Below w.heap.size w (w.alloc (.cells #[.int .u8 a, .int .u8 k.1, .int .u8 k.2.1, .int .u8 k.2.2, .int .i64 d] 36)) := (Below.refl _ _).alloc (Nat.le_refl _) _
 have hc := I.act _ _ ActFn.back (w.alloc (.cells #[.int .u8 a, .int .u8 k.1, .int .u8 k.2.1, .int .u8 k.2.2, .int .i64 d] 36)) k d hk hd
 have HC := Lib.hid hc
 have HB := Lib.hid hb
 have HX := Lib.hid (alloc_block w (.cells #[.int .u8 a, .int .u8 k.1, .int .u8 k.2.1, .int .u8 k.2.2, .int .i64 d] 36))
 obtain ⟨X, hX⟩ : ∃ X, w.heap.size = X := ⟨_, rfl⟩
 have HHX := Lib.hid hX
 rw [hX] at HX
 have HM := Lib.hid hm
 clear hc hb hk hd hm
 go_enter Try.func12, Try.ntmps12
 go_upto_region 1 with (fail)
 clear hX
 generalize w.alloc (.cells #[.int .u8 a, .int .u8 k.1, .int .u8 k.2.1, .int .u8 k.2.2, .int .i64 d] 36) = W1 at *
 have x0 := block_cell (j := 0) HX.out rfl
 have x1 := block_cell (j := 1) HX.out rfl
 have x2 := block_cell (j := 2) HX.out rfl
 have x3 := block_cell (j := 3) HX.out rfl
 have x4 := block_cell (j := 4) HX.out rfl
 go_upto_region 2 with (fail)
 rw [HM.out]
 go_wp2_with fail
 clear x0 x1 x2 x3 x4
 refine HC.out.mono ?_
 rintro e1 w1 ⟨rfl, hact⟩
 have HACT := Lib.hid (HB.out.trans (hact.mono HB.out.size))
 clear hact HC
 go_wp2_with fail
 go_ret
 exact ⟨rfl, HACT.out⟩
set_option maxHeartbeats 1000000 in
theorem fdnil_forth (I : FundNilI Fu) (a d : Int) (k : K) (w : World) (hk : Kok k) (hd : I64 d) (ha : 0 ≤ a) (hm : a % 6 = 4) :
 Calls Try.prog 12 #[.pointer none, .agg #[.int .u8 a, .int .u8 k.1, .int .u8 k.2.1, .int .u8 k.2.2, .int .i64 d]] w fun e w' => e = .returned (.int .i64 10) ∧ Below w.heap.size w w' := by
 have hb : Below w.heap.size w (w.alloc (.cells #[.int .u8 a, .int .u8 k.1, .int .u8 k.2.1, .int .u8 k.2.2, .int .i64 d] 36)) := (Below.refl _ _).alloc (Nat.le_refl _) _
 have hc := I.act _ _ ActFn.forth (w.alloc (.cells #[.int .u8 a, .int .u8 k.1, .int .u8 k.2.1, .int .u8 k.2.2, .int .i64 d] 36)) k d hk hd
 have HC := Lib.hid hc
 have HB := Lib.hid hb
 have HX := Lib.hid (alloc_block w (.cells #[.int .u8 a, .int .u8 k.1, .int .u8 k.2.1, .int .u8 k.2.2, .int .i64 d] 36))
 obtain ⟨X, hX⟩ : ∃ X, w.heap.size = X := ⟨_, rfl⟩
 have HHX := Lib.hid hX
 rw [hX] at HX
 have HM := Lib.hid hm
 clear hc hb hk hd hm
 go_enter Try.func12, Try.ntmps12
 go_upto_region 1 with (fail)
 clear hX
 generalize w.alloc (.cells #[.int .u8 a, .int .u8 k.1, .int .u8 k.2.1, .int .u8 k.2.2, .int .i64 d] 36) = W1 at *
 have x0 := block_cell (j := 0) HX.out rfl
 have x1 := block_cell (j := 1) HX.out rfl
 have x2 := block_cell (j := 2) HX.out rfl
 have x3 := block_cell (j := 3) HX.out rfl
 have x4 := block_cell (j := 4) HX.out rfl
 go_upto_region 2 with (fail)
 rw [HM.out]
 go_wp2_with fail
 clear x0 x1 x2 x3 x4
 refine HC.out.mono ?_
 rintro e1 w1 ⟨rfl, hact⟩
 have HACT := Lib.hid (HB.out.trans (hact.mono HB.out.size))
 clear hact HC
 go_wp2_with fail
 go_ret
 exact ⟨rfl, HACT.out⟩
set_option maxHeartbeats 1000000 in
theorem fdnil_drop (I : FundNilI Fu) (a d : Int) (k : K) (w : World) (hk : Kok k) (hd : I64 d) (ha : 0 ≤ a) (hm : a % 6 = 5) :
 Calls Try.prog 12 #[.pointer none, .agg #[.int .u8 a, .int .u8 k.1, .int .u8 k.2.1, .int .u8 k.2.2, .int .i64 d]] w fun e w' => e = .returned (.int .i64 10) ∧ Below w.heap.size w w' := by
 have hb : Below w.heap.size w (w.alloc (.cells #[.int .u8 a, .int .u8 k.1, .int .u8 k.2.1, .int .u8 k.2.2, .int .i64 d] 36)) := (Below.refl _ _).alloc (Nat.le_refl _) _
 have hc := I.act _ _ ActFn.drop (w.alloc (.cells #[.int .u8 a, .int .u8 k.1, .int .u8 k.2.1, .int .u8 k.2.2, .int .i64 d] 36)) k d hk hd
 have HC := Lib.hid hc
 have HB := Lib.hid hb
 have HX := Lib.hid (alloc_block w (.cells #[.int .u8 a, .int .u8 k.1, .int .u8 k.2.1, .int .u8 k.2.2, .int .i64 d] 36))
 obtain ⟨X, hX⟩ : ∃ X, w.heap.size = X := ⟨_, rfl⟩
 have HHX := Lib.hid hX
 rw [hX] at HX
 have HM := Lib.hid hm
 clear hc hb hk hd hm
 go_enter Try.func12, Try.ntmps12
 go_upto_region 1 with (fail)
 clear hX
 generalize w.alloc (.cells #[.int .u8 a, .int .u8 k.1, .int .u8 k.2.1, .int .u8 k.2.2, .int .i64 d] 36) = W1 at *
 have x0 := block_cell (j := 0) HX.out rfl
 have x1 := block_cell (j := 1) HX.out rfl
 have x2 := block_cell (j := 2) HX.out rfl
 have x3 := block_cell (j := 3) HX.out rfl
 have x4 := block_cell (j := 4) HX.out rfl
 go_upto_region 2 with (fail)
 rw [HM.out]
 go_wp2_with fail
 clear x0 x1 x2 x3 x4
 refine HC.out.mono ?_
 rintro e1 w1 ⟨rfl, hact⟩
 have HACT := Lib.hid (HB.out.trans (hact.mono HB.out.size))
 clear hact HC
 go_wp2_with fail
 go_ret
 exact ⟨rfl, HACT.out⟩
theorem fdnil_any (I : FundNilI Fu) (a d : Int) (k : K) (w : World) (hk : Kok k) (hd : I64 d) (ha : 0 ≤ a) :
 Calls Try.prog 12 #[.pointer none, .agg #[.int .u8 a, .int .u8 k.1, .int .u8 k.2.1, .int .u8 k.2.2, .int .i64 d]] w fun e w' => e = .returned (.int .i64 10) ∧ Below w.heap.size w w' := by
 have hc : a % 6 = 0 ∨ a % 6 = 1 ∨ a % 6 = 2 ∨ a % 6 = 3 ∨ a % 6 = 4 ∨ a % 6 = 5 := by omega
 rcases hc with e | e | e | e | e | e
 · exact fdnil_grant I a d k w hk hd ha e
 · exact fdnil_undo I a d k w hk hd ha e
 · exact fdnil_settle I a d k w hk hd ha e
 · exact fdnil_back I a d k w hk hd ha e
 · exact fdnil_forth I a d k w hk hd ha e
 · exact fdnil_drop I a d k w hk hd ha e
theorem ol_lone {w : World} {b : Nat} {k : K} {d : Int} {T : TypeId} (h : w.heap[b]? = some (.cells #[.int .u8 k.1, .int .u8 k.2.1, .int .u8 k.2.2, .int .i64 d] T (0, 0))) : OL w (some ⟨b, 0, none⟩) 1 1 [(k, d)] := by
 refine ⟨rfl, Nat.le_refl _, by unfold maxLen; omega, (fun h => by cases h), fun _ => ⟨b, 0, rfl, block_lt h, fun j hj i v hv => ?_⟩⟩
 obtain rfl : j = 0 := by omega
 have hv' : (oc (k, d))[i]? = some v := hv
 have e : (0 + 0 * 4 + i) = i := by omega
 rw [e]
 refine block_cell h ?_
 simpa [oc] using hv'
theorem ol_none (w : World) : OL w none 0 0 [] :=
 ⟨rfl, Nat.le_refl _, by unfold maxLen; omega, fun _ => rfl, fun h => by cases h⟩
set_option maxHeartbeats 8000000 in
theorem law_fnil (I : FundI Fu) (J : FundNilI Fu) (k : K) (d : Int) (f : Fv) (w : World) (hk : Kok k) (hd : I64 d) (hf : Fok f) :
 Calls Try.prog 7 #[.agg #[.int .u8 k.1, .int .u8 k.2.1, .int .u8 k.2.2, .int .i64 d], .agg (fcs f)] w fun e w' => e = .returned (.bool true) ∧ Below w.heap.size w w' := by
 obtain ⟨f1, f2, f3, f4, f5, f6⟩ := f
 have HI := Lib.hid I
 have HJ := Lib.hid J
 have HK := Lib.hid (And.intro hk hd)
 have HF := Lib.hid hf
 obtain ⟨hb0, hx0, hr0⟩ := ftwo_boxes w #[.int .u8 k.1, .int .u8 k.2.1, .int .u8 k.2.2, .int .i64 d] #[.int .i64 f1, .int .i64 f2, .int .i64 f3, .int .i64 f4, .int .i64 f5, .int .i64 f6] 34 42
 have HB0 := Lib.hid hb0
 have HX0 := Lib.hid hx0
 have HR0 := Lib.hid hr0
 obtain ⟨X, hX⟩ : ∃ X, w.heap.size = X := ⟨_, rfl⟩
 have HHX := Lib.hid hX
 rw [hX] at HX0 HR0
 clear hk hd hf hb0 hx0 hr0
 go_enter Try.func7, Try.ntmps7
 go_upto_region 2 with (fail)
 clear hX
 generalize (w.alloc (.cells #[.int .u8 k.1, .int .u8 k.2.1, .int .u8 k.2.2, .int .i64 d] 34)).alloc (.cells #[.int .i64 f1, .int .i64 f2, .int .i64 f3, .int .i64 f4, .int .i64 f5, .int .i64 f6] 42) = V0 at *
 have HXR : Hid (X < X + 1) := Lib.hid (by omega)
 generalize X + 1 = R at *
 obtain ⟨x0, x1, x2, x3⟩ := ocells HX0.out
 go_wp2_with fail
 clear x0 x1 x2 x3
 refine (HJ.out.get _ k HK.out.1).mono ?_
 rintro e1 w1 ⟨rfl, hb1⟩
 have hbn : Below w1.heap.size w1 (w1.alloc (.cells #[.int .i64 fz.lo, .int .i64 fz.hi, .int .i64 fz.ba, .int .i64 fz.inf, .int .i64 fz.sup, .int .i64 fz.va] 42)) := (Below.refl _ _).alloc (Nat.le_refl _) _
 have HX1 := Lib.hid (block_later (block_later HX0.out hb1) hbn)
 have HR1 := Lib.hid (block_later (block_later HR0.out hb1) hbn)
 have HB1 := Lib.hid (HB0.out.trans ((hb1.trans (hbn.mono hb1.size)).mono HB0.out.size))
 clear hb1 hbn HX0 HR0 HB0
 go_upto_region 3 with (fail)
 generalize w1.alloc (.cells #[.int .i64 fz.lo, .int .i64 fz.hi, .int .i64 fz.ba, .int .i64 fz.inf, .int .i64 fz.sup, .int .i64 fz.va] 42) = W1 at *
 generalize w1.heap.size = G at *
 go_wp2_with fail
 go_loopw [8] (fun v wr => ∃ j : Nat, j ≤ 6 ∧ v = .int .u8 (j : Int) ∧ Hid (Below w.heap.size w wr) ∧ Hid (wr.heap[X]? = some (.cells #[.int .u8 k.1, .int .u8 k.2.1, .int .u8 k.2.2, .int .i64 d] 34 (0, 0))) ∧ Hid (wr.heap[R]? = some (.cells #[.int .i64 f1, .int .i64 f2, .int .i64 f3, .int .i64 f4, .int .i64 f5, .int .i64 f6] 42 (0, 0)))) (fun v _ => 6 - (Go.RowKit.intOf v).toNat)
 case atStart => exact ⟨0, by omega, rfl, HB1, HX1, HR1⟩
 case round =>
  obtain ⟨j, hj6, rfl, HB, HX, HR⟩ := hrel
  by_cases hlt : j < 6
  · have t1 : (j : Int) < 6 := by omega
    have t2 : IntKind.u8.wrap ((j : Int) + 1) = (j : Int) + 1 := by
     unfold IntKind.wrap; simp [IntKind.signed, IntKind.bits]; omega
    obtain ⟨x0, x1, x2, x3⟩ := ocells HX.out
    go_wp2_with fail
    clear x0 x1 x2 x3
    refine (fdnil_any HJ.out (j : Int) d k _ HK.out.1 HK.out.2 (by omega)).mono ?_
    rintro e2 w2 ⟨rfl, hb2⟩
    have HX2 := Lib.hid (block_later HX.out hb2)
    have HR2 := Lib.hid (block_later HR.out hb2)
    have HB2 := Lib.hid (HB.out.trans (hb2.mono HB.out.size))
    clear hb2 HB HX HR
    go_wp2_with fail
    go_roundw
    case rel => exact ⟨j + 1, by omega, by go_num, HB2, HX2, HR2⟩
    case measure =>
     simp [Go.RowKit.intOf]
     omega
  · have t1 : ¬ (j : Int) < 6 := by omega
    obtain ⟨x0, x1, x2, x3⟩ := ocells HX.out
    obtain ⟨q0, q1, q2, q3, q4, q5⟩ := fcells HR.out
    go_wp2_with fail
    clear x0 x1 x2 x3 q0 q1 q2 q3 q4 q5
    refine (HJ.out.set _ k ⟨f1, f2, f3, f4, f5, f6⟩ HK.out.1 HF.out).mono ?_
    rintro e2 w2 ⟨rfl, hb2⟩
    have HX2 := Lib.hid (block_later HX.out hb2)
    have HB2 := Lib.hid (HB.out.trans (hb2.mono HB.out.size))
    clear hb2 HB HX HR
    go_wp2_with fail
    refine (HJ.out.keys _).mono ?_
    rintro e3 w3 ⟨r3, c3, rfl, hb3⟩
    have HX3 := Lib.hid (block_later HX2.out hb3)
    have HB3 := Lib.hid (HB2.out.trans (hb3.mono HB2.out.size))
    clear hb3 HB2 HX2
    obtain ⟨x0, x1, x2, x3⟩ := ocells HX3.out
    have hba : Below w3.heap.size w3 (w3.alloc (.cells #[.int .u8 k.1, .int .u8 k.2.1, .int .u8 k.2.2, .int .i64 d] 34)) := (Below.refl _ _).alloc (Nat.le_refl _) _
    have HOL := Lib.hid (ol_lone (alloc_block w3 (.cells #[.int .u8 k.1, .int .u8 k.2.1, .int .u8 k.2.2, .int .i64 d] 34)))
    have HB4 := Lib.hid (HB3.out.trans (hba.mono HB3.out.size))
    clear hba
    go_wp2_with fail
    clear x0 x1 x2 x3
    generalize w3.alloc (.cells #[.int .u8 k.1, .int .u8 k.2.1, .int .u8 k.2.2, .int .i64 d] 34) = W4 at *
    generalize w3.heap.size = D4 at *
    refine (HJ.out.try_ _ _ 1 1 _ HOL.out (by omega) (fun x hx => by rw [List.mem_singleton.1 hx]; exact HK.out)).mono ?_
    rintro e5 w5 ⟨rfl, hb5⟩
    have HB5 := Lib.hid (HB4.out.trans (hb5.mono HB4.out.size))
    clear hb5
    go_wp2_with fail
    refine (HJ.out.try_ _ none 0 0 [] (ol_none _) (by omega) (fun x hx => by cases hx)).mono ?_
    rintro e6 w6 ⟨rfl, hb6⟩
    have HB6 := Lib.hid (HB5.out.trans (hb6.mono HB5.out.size))
    clear hb6
    go_wp2_with fail
    refine (HJ.out.copy _).mono ?_
    rintro e7 w7 ⟨B7, Q7, rfl, hf7, _, hb7⟩
    have HF7 := Lib.hid hf7
    have HB7 := Lib.hid (HB6.out.trans (hb7.mono HB6.out.size))
    clear hf7 hb7
    go_wp2_with fail
    refine (HI.out.keys _ B7 [] Q7 HF7.out (by simp)).mono ?_
    rintro e8 w8 ⟨r8, c8, rfl, _, hb8⟩
    have HB8 := Lib.hid (HB7.out.trans (hb8.mono HB7.out.size))
    clear hb8
    go_wp2_with fail
    refine (fund_works HI.out _).mono ?_
    rintro e9 w9 ⟨rfl, hb9⟩
    have HB9 := Lib.hid (HB8.out.trans (hb9.mono HB8.out.size))
    clear hb9
    go_wp2_with fail
    go_ret
    exact ⟨rfl, HB9.out⟩
end Go.Proofs.Ytmdldbchdnkfcaa
