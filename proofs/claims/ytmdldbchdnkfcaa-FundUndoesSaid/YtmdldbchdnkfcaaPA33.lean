import Derived.Test.YtmdldbchdnkfcaaPA32
import Derived.Test.YtmdldbchdnkfcaaPA22
namespace Go.Proofs.Ytmdldbchdnkfcaa
open Go.RowKit Go.ChangeShapes Go.WideShapes
set_option linter.unusedVariables false
set_option linter.unusedSimpArgs false
set_option maxRecDepth 10000
inductive ActFn : Nat → Int → Prop
 | grant : ActFn 19 0
 | undo : ActFn 20 1
 | settle : ActFn 33 2
 | back : ActFn 34 3
 | forth : ActFn 35 4
 | drop : ActFn 36 5
def Acted (Fu : World → Nat → List FW → (Nat → Prop) → Prop) (w w' : World) (B : Nat) (M : List FW) (Q : Nat → Prop) : Prop := ∃ Q', Fu w' B M Q' ∧ (∀ j, Q' j → Q j ∨ w.heap.size ≤ j) ∧ Turn Q w w'
structure FundI (Fu : World → Nat → List FW → (Nat → Prop) → Prop) : Prop where
 keep : ∀ {w w' : World} {B : Nat} {M : List FW} {Q S : Nat → Prop}, Fu w B M Q → Turn S w w' → (∀ j, Q j → ¬ S j) → Fu w' B M Q
 lt : ∀ {w : World} {B : Nat} {M : List FW} {Q : Nat → Prop}, Fu w B M Q → ∀ j, Q j → j < w.heap.size
 new : ∀ (p : Option Addr) (n c : Nat) (L : List FD) (w : World), FDL w p n c L → n ≤ 40 → (∀ x ∈ L, FDok x) → Calls Try.prog 8 #[.slice p n c] w fun e w' => ∃ B Q, e = .returned (.pointer (some ⟨B, 0, none⟩)) ∧ Fu w' B (fnewL L) Q ∧ (∀ j, Q j → w.heap.size ≤ j) ∧ Below w.heap.size w w'
 get : ∀ (w : World) (B : Nat) (M : List FW) (Q : Nat → Prop) (k : K), Fu w B M Q → Kok k → Calls Try.prog 21 #[.pointer (some ⟨B, 0, none⟩), .agg #[.int .u8 k.1, .int .u8 k.2.1, .int .u8 k.2.2]] w fun e w' => e = .returned (.tuple #[.agg (fcs ((getG M k).getD fz)), .bool (getG M k).isSome]) ∧ Below w.heap.size w w'
 keys : ∀ (w : World) (B : Nat) (M : List FW) (Q : Nat → Prop), Fu w B M Q → M.length ≤ 100 → Calls Try.prog 22 #[.pointer (some ⟨B, 0, none⟩)] w fun e w' => ∃ r c, e = .returned (.slice r (keysG M).length c) ∧ KL w' r (keysG M).length c (keysG M) ∧ Below w.heap.size w w'
 act : ∀ (fn : Nat) (c : Int), ActFn fn c → ∀ (w : World) (B : Nat) (M : List FW) (Q : Nat → Prop) (k : K) (d : Int), Fu w B M Q → FOk M → M.length ≤ 100 → Kok k → I64 d → Calls Try.prog fn #[.pointer (some ⟨B, 0, none⟩), .agg #[.int .u8 k.1, .int .u8 k.2.1, .int .u8 k.2.2, .int .i64 d]] w fun e w' => e = .returned (.int .i64 (fdoE c M k d)) ∧ Acted Fu w w' B (fdoL c M k d) Q
 set : ∀ (w : World) (B : Nat) (M : List FW) (Q : Nat → Prop) (k : K) (f : Fv), Fu w B M Q → FOk M → M.length ≤ 100 → Kok k → Fok f → Calls Try.prog 15 #[.pointer (some ⟨B, 0, none⟩), .agg #[.int .u8 k.1, .int .u8 k.2.1, .int .u8 k.2.2], .agg (fcs f)] w fun e w' => e = .returned (.int .i64 (fsetE M k f)) ∧ Acted Fu w w' B (fsetL M k f) Q
 try_ : ∀ (w : World) (B : Nat) (M : List FW) (Q : Nat → Prop) (p : Option Addr) (n c : Nat) (T : List O), Fu w B M Q → FOk M → M.length ≤ 100 → OL w p n c T → n ≤ 100 → (∀ x ∈ T, Ook x) → Calls Try.prog 16 #[.pointer (some ⟨B, 0, none⟩), .slice p n c] w fun e w' => e = .returned (.int .i64 (ftryE M T)) ∧ Acted Fu w w' B M Q
 copy : ∀ (w : World) (B : Nat) (M : List FW) (Q : Nat → Prop), Fu w B M Q → FOk M → M.length ≤ 100 → Calls Try.prog 18 #[.pointer (some ⟨B, 0, none⟩)] w fun e w' => ∃ B' Q', e = .returned (.pointer (some ⟨B', 0, none⟩)) ∧ Fu w' B' M Q' ∧ (∀ j, Q' j → w.heap.size ≤ j) ∧ Below w.heap.size w w'
variable {Fu : World → Nat → List FW → (Nat → Prop) → Prop}
theorem FundI.later (I : FundI Fu) {w w' : World} {B : Nat} {M : List FW} {Q : Nat → Prop} (h : Fu w B M Q) (hb : Below w.heap.size w w') : Fu w' B M Q := I.keep (S := fun _ => False) h (Turn.of_below hb) (fun _ _ h => h)
theorem Acted.ahead {w w1 w' : World} {B : Nat} {M : List FW} {Q : Nat → Prop} (hb : Below w.heap.size w w1) (h : Acted Fu w1 w' B M Q) : Acted Fu w w' B M Q := by
 obtain ⟨Q', h1, h2, h3⟩ := h
 exact ⟨Q', h1, fun j hj => (h2 j hj).imp id (Nat.le_trans hb.size), (Turn.of_below (S := Q) hb).trans h3 (fun _ _ h => h)⟩
theorem FundI.obj (I : FundI Fu) {B : Nat} {M : List FW} {Q : Nat → Prop} (hn : M.length ≤ 100) : FuObj (.pointer (some ⟨B, 0, none⟩)) M (fun w => Fu w B M Q) :=
 ⟨fun w w' h hb => I.later h hb, fun w k h hk => I.get w B M Q k h hk, fun w h => I.keys w B M Q h hn⟩
theorem FundI.same (I : FundI Fu) {w : World} {B : Nat} {M : List FW} {Q : Nat → Prop} (h : Fu w B M Q) (hM : FOk M) (hn : M.length ≤ 100) (p : Option Addr) (n c : Nat) (hL : FWL w p n c M) :
 Calls Try.prog 10 #[.pointer (some ⟨B, 0, none⟩), .slice p n c] w fun e w' => e = .returned (.int .i64 1) ∧ Below w.heap.size w w' :=
 same_rows (some ⟨B, 0, none⟩) M (fun w => Fu w B M Q) (I.obj hn) hM.up hM.kok p n c w h hL (by rw [← hL.len]; omega)
set_option maxHeartbeats 1000000 in
theorem fdcall_grant (I : FundI Fu) (a d : Int) (k : K) (w : World) (B : Nat) (M : List FW) (Q : Nat → Prop) (h : Fu w B M Q) (hM : FOk M) (hn : M.length ≤ 100) (hk : Kok k) (hd : I64 d) (ha : 0 ≤ a) (hm : a % 6 = 0) :
 Calls Try.prog 12 #[.pointer (some ⟨B, 0, none⟩), .agg #[.int .u8 a, .int .u8 k.1, .int .u8 k.2.1, .int .u8 k.2.2, .int .i64 d]] w fun e w' => e = .returned (.int .i64 (fdoE 0 M k d)) ∧ Acted Fu w w' B (fdoL 0 M k d) Q := by
 have hb : Below w.heap.size w (w.alloc (.cells #[.int .u8 a, .int .u8 k.1, .int .u8 k.2.1, .int .u8 k.2.2, .int .i64 d] 36)) := (Below.refl _ _).alloc (Nat.le_refl _) _
 have hc := I.act _ _ ActFn.grant _ B M Q k d (I.later h hb) hM hn hk hd
 have HC := Lib.hid hc
 have HB := Lib.hid hb
 have HX := Lib.hid (alloc_block w (.cells #[.int .u8 a, .int .u8 k.1, .int .u8 k.2.1, .int .u8 k.2.2, .int .i64 d] 36))
 obtain ⟨X, hX⟩ : ∃ X, w.heap.size = X := ⟨_, rfl⟩
 have HHX := Lib.hid hX
 rw [hX] at HX
 have HM := Lib.hid hm
 clear hc hb h hM hk hd hm
 generalize fdoE 0 M k d = z at *
 go_enter Try.func12, Try.ntmps12
 go_upto_region 1 with (fail)
 clear hX
 generalize w.alloc (.cells #[.int .u8 a, .int .u8 k.1, .int .u8 k.2.1, .int .u8 k.2.2, .int .i64 d] 36) = W1 at *
 have x0 := block_cell (j := 0) HX.out rfl
 have x1 := block_cell (j := 1) HX.out rfl
 have x2 := block_cell (j := 2) HX.out rfl
 have x3 := block_cell (j := 3) HX.out rfl
 have x4 := block_cell (j := 4) HX.out rfl
 go_upto_region 2 with (fail)
 rw [HM.out]
 go_wp2_with fail
 clear x0 x1 x2 x3 x4
 refine HC.out.mono ?_
 rintro e1 w1 ⟨rfl, hact⟩
 have HACT := Lib.hid (hact.ahead HB.out)
 clear hact HC
 go_wp2_with fail
 go_ret
 exact ⟨rfl, HACT.out⟩
set_option maxHeartbeats 1000000 in
theorem fdcall_undo (I : FundI Fu) (a d : Int) (k : K) (w : World) (B : Nat) (M : List FW) (Q : Nat → Prop) (h : Fu w B M Q) (hM : FOk M) (hn : M.length ≤ 100) (hk : Kok k) (hd : I64 d) (ha : 0 ≤ a) (hm : a % 6 = 1) :
 Calls Try.prog 12 #[.pointer (some ⟨B, 0, none⟩), .agg #[.int .u8 a, .int .u8 k.1, .int .u8 k.2.1, .int .u8 k.2.2, .int .i64 d]] w fun e w' => e = .returned (.int .i64 (fdoE 1 M k d)) ∧ Acted Fu w w' B (fdoL 1 M k d) Q := by
 have hb : Below w.heap.size w (w.alloc (.cells #[.int .u8 a, .int .u8 k.1, .int .u8 k.2.1, .int .u8 k.2.2, .int .i64 d] 36)) := (Below.refl _ _).alloc (Nat.le_refl _) _
 have hc := I.act _ _ ActFn.undo _ B M Q k d (I.later h hb) hM hn hk hd
 have HC := Lib.hid hc
 have HB := Lib.hid hb
 have HX := Lib.hid (alloc_block w (.cells #[.int .u8 a, .int .u8 k.1, .int .u8 k.2.1, .int .u8 k.2.2, .int .i64 d] 36))
 obtain ⟨X, hX⟩ : ∃ X, w.heap.size = X := ⟨_, rfl⟩
 have HHX := Lib.hid hX
 rw [hX] at HX
 have HM := Lib.hid hm
 clear hc hb h hM hk hd hm
 generalize fdoE 1 M k d = z at *
 go_enter Try.func12, Try.ntmps12
 go_upto_region 1 with (fail)
 clear hX
 generalize w.alloc (.cells #[.int .u8 a, .int .u8 k.1, .int .u8 k.2.1, .int .u8 k.2.2, .int .i64 d] 36) = W1 at *
 have x0 := block_cell (j := 0) HX.out rfl
 have x1 := block_cell (j := 1) HX.out rfl
 have x2 := block_cell (j := 2) HX.out rfl
 have x3 := block_cell (j := 3) HX.out rfl
 have x4 := block_cell (j := 4) HX.out rfl
 go_upto_region 2 with (fail)
 rw [HM.out]
 go_wp2_with fail
 clear x0 x1 x2 x3 x4
 refine HC.out.mono ?_
 rintro e1 w1 ⟨rfl, hact⟩
 have HACT := Lib.hid (hact.ahead HB.out)
 clear hact HC
 go_wp2_with fail
 go_ret
 exact ⟨rfl, HACT.out⟩
set_option maxHeartbeats 1000000 in
theorem fdcall_settle (I : FundI Fu) (a d : Int) (k : K) (w : World) (B : Nat) (M : List FW) (Q : Nat → Prop) (h : Fu w B M Q) (hM : FOk M) (hn : M.length ≤ 100) (hk : Kok k) (hd : I64 d) (ha : 0 ≤ a) (hm : a % 6 = 2) :
 Calls Try.prog 12 #[.pointer (some ⟨B, 0, none⟩), .agg #[.int .u8 a, .int .u8 k.1, .int .u8 k.2.1, .int .u8 k.2.2, .int .i64 d]] w fun e w' => e = .returned (.int .i64 (fdoE 2 M k d)) ∧ Acted Fu w w' B (fdoL 2 M k d) Q := by
 have hb : Below w.heap.size w (w.alloc (.cells #[.int .u8 a, .int .u8 k.1, .int .u8 k.2.1, .int .u8 k.2.2, .int .i64 d] 36)) := (Below.refl _ _).alloc (Nat.le_refl _) _
 have hc := I.act _ _ ActFn.settle _ B M Q k d (I.later h hb) hM hn hk hd
 have HC := Lib.hid hc
 have HB := Lib.hid hb
 have HX := Lib.hid (alloc_block w (.cells #[.int .u8 a, .int .u8 k.1, .int .u8 k.2.1, .int .u8 k.2.2, .int .i64 d] 36))
 obtain ⟨X, hX⟩ : ∃ X, w.heap.size = X := ⟨_, rfl⟩
 have HHX := Lib.hid hX
 rw [hX] at HX
 have HM := Lib.hid hm
 clear hc hb h hM hk hd hm
 generalize fdoE 2 M k d = z at *
 go_enter Try.func12, Try.ntmps12
 go_upto_region 1 with (fail)
 clear hX
 generalize w.alloc (.cells #[.int .u8 a, .int .u8 k.1, .int .u8 k.2.1, .int .u8 k.2.2, .int .i64 d] 36) = W1 at *
 have x0 := block_cell (j := 0) HX.out rfl
 have x1 := block_cell (j := 1) HX.out rfl
 have x2 := block_cell (j := 2) HX.out rfl
 have x3 := block_cell (j := 3) HX.out rfl
 have x4 := block_cell (j := 4) HX.out rfl
 go_upto_region 2 with (fail)
 rw [HM.out]
 go_wp2_with fail
 clear x0 x1 x2 x3 x4
 refine HC.out.mono ?_
 rintro e1 w1 ⟨rfl, hact⟩
 have HACT := Lib.hid (hact.ahead HB.out)
 clear hact HC
 go_wp2_with fail
 go_ret
 exact ⟨rfl, HACT.out⟩
set_option maxHeartbeats 1000000 in
theorem fdcall_back (I : FundI Fu) (a d : Int) (k : K) (w : World) (B : Nat) (M : List FW) (Q : Nat → Prop) (h : Fu w B M Q) (hM : FOk M) (hn : M.length ≤ 100) (hk : Kok k) (hd : I64 d) (ha : 0 ≤ a) (hm : a % 6 = 3) :
 Calls Try.prog 12 #[.pointer (some ⟨B, 0, none⟩), .agg #[.int .u8 a, .int .u8 k.1, .int .u8 k.2.1, .int .u8 k.2.2, .int .i64 d]] w fun e w' => e = .returned (.int .i64 (fdoE 3 M k d)) ∧ Acted Fu w w' B (fdoL 3 M k d) Q := by
 have hb : Below w.heap.size w (w.alloc (.cells #[.int .u8 a, .int .u8 k.1, .int .u8 k.2.1, .int .u8 k.2.2, .int .i64 d] 36)) := (Below.refl _ _).alloc (Nat.le_refl _) _
 have hc := I.act _ _ ActFn.back _ B M Q k d (I.later h hb) hM hn hk hd
 have HC := Lib.hid hc
 have HB := Lib.hid hb
 have HX := Lib.hid (alloc_block w (.cells #[.int .u8 a, .int .u8 k.1, .int .u8 k.2.1, .int .u8 k.2.2, .int .i64 d] 36))
 obtain ⟨X, hX⟩ : ∃ X, w.heap.size = X := ⟨_, rfl⟩
 have HHX := Lib.hid hX
 rw [hX] at HX
 have HM := Lib.hid hm
 clear hc hb h hM hk hd hm
 generalize fdoE 3 M k d = z at *
 go_enter Try.func12, Try.ntmps12
 go_upto_region 1 with (fail)
 clear hX
 generalize w.alloc (.cells #[.int .u8 a, .int .u8 k.1, .int .u8 k.2.1, .int .u8 k.2.2, .int .i64 d] 36) = W1 at *
 have x0 := block_cell (j := 0) HX.out rfl
 have x1 := block_cell (j := 1) HX.out rfl
 have x2 := block_cell (j := 2) HX.out rfl
 have x3 := block_cell (j := 3) HX.out rfl
 have x4 := block_cell (j := 4) HX.out rfl
 go_upto_region 2 with (fail)
 rw [HM.out]
 go_wp2_with fail
 clear x0 x1 x2 x3 x4
 refine HC.out.mono ?_
 rintro e1 w1 ⟨rfl, hact⟩
 have HACT := Lib.hid (hact.ahead HB.out)
 clear hact HC
 go_wp2_with fail
 go_ret
 exact ⟨rfl, HACT.out⟩
set_option maxHeartbeats 1000000 in
theorem fdcall_forth (I : FundI Fu) (a d : Int) (k : K) (w : World) (B : Nat) (M : List FW) (Q : Nat → Prop) (h : Fu w B M Q) (hM : FOk M) (hn : M.length ≤ 100) (hk : Kok k) (hd : I64 d) (ha : 0 ≤ a) (hm : a % 6 = 4) :
 Calls Try.prog 12 #[.pointer (some ⟨B, 0, none⟩), .agg #[.int .u8 a, .int .u8 k.1, .int .u8 k.2.1, .int .u8 k.2.2, .int .i64 d]] w fun e w' => e = .returned (.int .i64 (fdoE 4 M k d)) ∧ Acted Fu w w' B (fdoL 4 M k d) Q := by
 have hb : Below w.heap.size w (w.alloc (.cells #[.int .u8 a, .int .u8 k.1, .int .u8 k.2.1, .int .u8 k.2.2, .int .i64 d] 36)) := (Below.refl _ _).alloc (Nat.le_refl _) _
 have hc := I.act _ _ ActFn.forth _ B M Q k d (I.later h hb) hM hn hk hd
 have HC := Lib.hid hc
 have HB := Lib.hid hb
 have HX := Lib.hid (alloc_block w (.cells #[.int .u8 a, .int .u8 k.1, .int .u8 k.2.1, .int .u8 k.2.2, .int .i64 d] 36))
 obtain ⟨X, hX⟩ : ∃ X, w.heap.size = X := ⟨_, rfl⟩
 have HHX := Lib.hid hX
 rw [hX] at HX
 have HM := Lib.hid hm
 clear hc hb h hM hk hd hm
 generalize fdoE 4 M k d = z at *
 go_enter Try.func12, Try.ntmps12
 go_upto_region 1 with (fail)
 clear hX
 generalize w.alloc (.cells #[.int .u8 a, .int .u8 k.1, .int .u8 k.2.1, .int .u8 k.2.2, .int .i64 d] 36) = W1 at *
 have x0 := block_cell (j := 0) HX.out rfl
 have x1 := block_cell (j := 1) HX.out rfl
 have x2 := block_cell (j := 2) HX.out rfl
 have x3 := block_cell (j := 3) HX.out rfl
 have x4 := block_cell (j := 4) HX.out rfl
 go_upto_region 2 with (fail)
 rw [HM.out]
 go_wp2_with fail
 clear x0 x1 x2 x3 x4
 refine HC.out.mono ?_
 rintro e1 w1 ⟨rfl, hact⟩
 have HACT := Lib.hid (hact.ahead HB.out)
 clear hact HC
 go_wp2_with fail
 go_ret
 exact ⟨rfl, HACT.out⟩
set_option maxHeartbeats 1000000 in
theorem fdcall_drop (I : FundI Fu) (a d : Int) (k : K) (w : World) (B : Nat) (M : List FW) (Q : Nat → Prop) (h : Fu w B M Q) (hM : FOk M) (hn : M.length ≤ 100) (hk : Kok k) (hd : I64 d) (ha : 0 ≤ a) (hm : a % 6 = 5) :
 Calls Try.prog 12 #[.pointer (some ⟨B, 0, none⟩), .agg #[.int .u8 a, .int .u8 k.1, .int .u8 k.2.1, .int .u8 k.2.2, .int .i64 d]] w fun e w' => e = .returned (.int .i64 (fdoE 5 M k d)) ∧ Acted Fu w w' B (fdoL 5 M k d) Q := by
 have hb : Below w.heap.size w (w.alloc (.cells #[.int .u8 a, .int .u8 k.1, .int .u8 k.2.1, .int .u8 k.2.2, .int .i64 d] 36)) := (Below.refl _ _).alloc (Nat.le_refl _) _
 have hc := I.act _ _ ActFn.drop _ B M Q k d (I.later h hb) hM hn hk hd
 have HC := Lib.hid hc
 have HB := Lib.hid hb
 have HX := Lib.hid (alloc_block w (.cells #[.int .u8 a, .int .u8 k.1, .int .u8 k.2.1, .int .u8 k.2.2, .int .i64 d] 36))
 obtain ⟨X, hX⟩ : ∃ X, w.heap.size = X := ⟨_, rfl⟩
 have HHX := Lib.hid hX
 rw [hX] at HX
 have HM := Lib.hid hm
 clear hc hb h hM hk hd hm
 generalize fdoE 5 M k d = z at *
 go_enter Try.func12, Try.ntmps12
 go_upto_region 1 with (fail)
 clear hX
 generalize w.alloc (.cells #[.int .u8 a, .int .u8 k.1, .int .u8 k.2.1, .int .u8 k.2.2, .int .i64 d] 36) = W1 at *
 have x0 := block_cell (j := 0) HX.out rfl
 have x1 := block_cell (j := 1) HX.out rfl
 have x2 := block_cell (j := 2) HX.out rfl
 have x3 := block_cell (j := 3) HX.out rfl
 have x4 := block_cell (j := 4) HX.out rfl
 go_upto_region 2 with (fail)
 rw [HM.out]
 go_wp2_with fail
 clear x0 x1 x2 x3 x4
 refine HC.out.mono ?_
 rintro e1 w1 ⟨rfl, hact⟩
 have HACT := Lib.hid (hact.ahead HB.out)
 clear hact HC
 go_wp2_with fail
 go_ret
 exact ⟨rfl, HACT.out⟩
theorem fdcall_any (I : FundI Fu) (a d : Int) (k : K) (w : World) (B : Nat) (M : List FW) (Q : Nat → Prop) (h : Fu w B M Q) (hM : FOk M) (hn : M.length ≤ 100) (hk : Kok k) (hd : I64 d) (ha : 0 ≤ a) :
 Calls Try.prog 12 #[.pointer (some ⟨B, 0, none⟩), .agg #[.int .u8 a, .int .u8 k.1, .int .u8 k.2.1, .int .u8 k.2.2, .int .i64 d]] w fun e w' => e = .returned (.int .i64 (fdoE (a % 6) M k d)) ∧ Acted Fu w w' B (fdoL (a % 6) M k d) Q := by
 have hc : a % 6 = 0 ∨ a % 6 = 1 ∨ a % 6 = 2 ∨ a % 6 = 3 ∨ a % 6 = 4 ∨ a % 6 = 5 := by omega
 rcases hc with e | e | e | e | e | e
 · have := fdcall_grant I a d k w B M Q h hM hn hk hd ha e
   rw [e]; exact this
 · have := fdcall_undo I a d k w B M Q h hM hn hk hd ha e
   rw [e]; exact this
 · have := fdcall_settle I a d k w B M Q h hM hn hk hd ha e
   rw [e]; exact this
 · have := fdcall_back I a d k w B M Q h hM hn hk hd ha e
   rw [e]; exact this
 · have := fdcall_forth I a d k w B M Q h hM hn hk hd ha e
   rw [e]; exact this
 · have := fdcall_drop I a d k w B M Q h hM hn hk hd ha e
   rw [e]; exact this
theorem fd_one {w : World} {b : Nat} {x : FD} {T : TypeId} (h : w.heap[b]? = some (.cells #[.int .u8 x.1.1, .int .u8 x.1.2.1, .int .u8 x.1.2.2, .int .i64 x.2.1, .int .i64 x.2.2.1, .int .i64 x.2.2.2] T (0, 0))) : FDL w (some ⟨b, 0, none⟩) 1 1 [x] := by
 refine ⟨rfl, Nat.le_refl _, by unfold maxLen; omega, (fun h => by cases h), fun _ => ⟨b, 0, rfl, block_lt h, fun j hj i v hv => ?_⟩⟩
 obtain rfl : j = 0 := by omega
 have hv' : (fdc x)[i]? = some v := hv
 have e : (0 + 0 * 6 + i) = i := by omega
 rw [e]
 refine block_cell h ?_
 simpa [fdc] using hv'
theorem ol_two {w : World} {b : Nat} {x y : O} {T : TypeId} (h : w.heap[b]? = some (.cells #[.int .u8 x.1.1, .int .u8 x.1.2.1, .int .u8 x.1.2.2, .int .i64 x.2, .int .u8 y.1.1, .int .u8 y.1.2.1, .int .u8 y.1.2.2, .int .i64 y.2] T (0, 0))) : OL w (some ⟨b, 0, none⟩) 2 2 [x, y] := by
 refine ⟨rfl, Nat.le_refl _, by unfold maxLen; omega, (fun h => by cases h), fun _ => ⟨b, 0, rfl, block_lt h, fun j hj i v hv => ?_⟩⟩
 have hj2 : j = 0 ∨ j = 1 := by omega
 rcases hj2 with rfl | rfl
 · have hv' : (oc x)[i]? = some v := hv
   have hi : i < 4 := (List.getElem?_eq_some_iff.1 hv').1
   refine block_cell h ?_
   have hc : i = 0 ∨ i = 1 ∨ i = 2 ∨ i = 3 := by omega
   rcases hc with rfl | rfl | rfl | rfl <;> simpa [oc] using hv'
 · have hv' : (oc y)[i]? = some v := hv
   have hi : i < 4 := (List.getElem?_eq_some_iff.1 hv').1
   refine block_cell h ?_
   have hc : i = 0 ∨ i = 1 ∨ i = 2 ∨ i = 3 := by omega
   rcases hc with rfl | rfl | rfl | rfl <;> simpa [oc] using hv'
theorem exf_new : fnewL [(((4, 0, 0) : K), 0, 0, 3)] = [(((4, 0, 0) : K), (⟨0, 3, 0, 0, 0, 0⟩ : Fv))] := rfl
theorem exf_try : ftryE [(((4, 0, 0) : K), (⟨0, 3, 0, 0, 0, 0⟩ : Fv))] [(((4, 0, 0) : K), 2), (((4, 0, 0) : K), 2)] = 3 := rfl
theorem exf_get : getG [(((4, 0, 0) : K), (⟨0, 3, 0, 0, 0, 0⟩ : Fv))] ((4, 0, 0) : K) = some ⟨0, 3, 0, 0, 0, 0⟩ := rfl
theorem exf_ok : FOk [(((4, 0, 0) : K), (⟨0, 3, 0, 0, 0, 0⟩ : Fv))] := ⟨List.Pairwise.cons (fun x hx => by cases hx) List.Pairwise.nil, fun r hr => by rw [List.mem_singleton.1 hr]; exact ⟨⟨by decide, by decide⟩, ⟨by decide, by decide⟩, ⟨by decide, by decide⟩⟩, fun r hr => by rw [List.mem_singleton.1 hr]; decide⟩
variable {Fu : World → Nat → List FW → (Nat → Prop) → Prop}
set_option maxHeartbeats 2000000 in
theorem fund_works (I : FundI Fu) (W : World) : Calls Try.prog 13 #[] W fun r w' => r = .returned (.bool true) ∧ Below W.heap.size W w' := by
 have hkk : Kok ((4, 0, 0) : K) := ⟨⟨by decide, by decide⟩, ⟨by decide, by decide⟩, ⟨by decide, by decide⟩⟩
 have HI := Lib.hid I
 have HKK := Lib.hid hkk
 clear hkk
 have HB0 : Hid (Below W.heap.size W (W.alloc (.cells #[.int .u8 4, .int .u8 0, .int .u8 0] 32))) := Lib.hid ((Below.refl _ _).alloc (Nat.le_refl _) _)
 have HX0 := Lib.hid (alloc_block W (.cells #[.int .u8 4, .int .u8 0, .int .u8 0] 32))
 obtain ⟨X, hX⟩ : ∃ X, W.heap.size = X := ⟨_, rfl⟩
 have HHX := Lib.hid hX
 rw [hX] at HX0
 go_enter Try.func13, Try.ntmps13
 go_upto_region 2 with (fail)
 clear hX
 generalize W.alloc (.cells #[.int .u8 4, .int .u8 0, .int .u8 0] 32) = W0 at *
 have x0 := block_cell (j := 0) HX0.out rfl
 have x1 := block_cell (j := 1) HX0.out rfl
 have x2 := block_cell (j := 2) HX0.out rfl
 have hba : Below W0.heap.size W0 (W0.alloc (.cells #[.int .u8 4, .int .u8 0, .int .u8 0, .int .i64 0, .int .i64 0, .int .i64 3] 63)) := (Below.refl _ _).alloc (Nat.le_refl _) _
 have HDL := Lib.hid (fd_one (x := (((4, 0, 0) : K), 0, 0, 3)) (alloc_block W0 (.cells #[.int .u8 4, .int .u8 0, .int .u8 0, .int .i64 0, .int .i64 0, .int .i64 3] 63)))
 have HX1 := Lib.hid (block_later HX0.out hba)
 have HB1 := Lib.hid (HB0.out.trans (hba.mono HB0.out.size))
 clear hba
 go_wp2_with fail
 clear x0 x1 x2
 generalize W0.alloc (.cells #[.int .u8 4, .int .u8 0, .int .u8 0, .int .i64 0, .int .i64 0, .int .i64 3] 63) = W1 at *
 generalize W0.heap.size = D at *
 refine (HI.out.new _ 1 1 _ _ HDL.out (by omega) (fun x hx => by rw [List.mem_singleton.1 hx]; exact ⟨HKK.out, by decide, by decide, by decide⟩)).mono ?_
 rw [exf_new]
 rintro e1 w2 ⟨B, Q, rfl, hF, hQ, hb2⟩
 have HF2 := Lib.hid hF
 have HX2 := Lib.hid (block_later HX1.out hb2)
 have HB2 := Lib.hid (HB1.out.trans (hb2.mono HB1.out.size))
 have HQ2 : Hid (∀ j, Q j → X < j ∧ X ≤ j) := Lib.hid fun j hj => by have h1 := hQ j hj; have h2 := block_lt HX1.out; omega
 clear hF hQ hb2
 have x0 := block_cell (j := 0) HX2.out rfl
 have x1 := block_cell (j := 1) HX2.out rfl
 have x2 := block_cell (j := 2) HX2.out rfl
 have hba : Below w2.heap.size w2 (w2.alloc (.cells #[.int .u8 4, .int .u8 0, .int .u8 0, .int .i64 2, .int .u8 4, .int .u8 0, .int .u8 0, .int .i64 2] 34)) := (Below.refl _ _).alloc (Nat.le_refl _) _
 have HOL := Lib.hid (ol_two (x := (((4, 0, 0) : K), 2)) (y := (((4, 0, 0) : K), 2)) (alloc_block w2 (.cells #[.int .u8 4, .int .u8 0, .int .u8 0, .int .i64 2, .int .u8 4, .int .u8 0, .int .u8 0, .int .i64 2] 34)))
 have HX3 := Lib.hid (block_later HX2.out hba)
 have HB3 := Lib.hid (HB2.out.trans (hba.mono HB2.out.size))
 have HF3 := Lib.hid (HI.out.later HF2.out hba)
 clear hba
 go_wp2_with fail
 clear x0 x1 x2
 generalize w2.alloc (.cells #[.int .u8 4, .int .u8 0, .int .u8 0, .int .i64 2, .int .u8 4, .int .u8 0, .int .u8 0, .int .i64 2] 34) = W3 at *
 generalize w2.heap.size = D2 at *
 refine (HI.out.try_ _ B _ Q _ 2 2 _ HF3.out exf_ok (by decide) HOL.out (by omega) (fun x hx => by
  have e : x = (((4, 0, 0) : K), 2) := by
   rcases List.mem_cons.1 hx with h | h
   · exact h
   · exact List.mem_singleton.1 h
  rw [e]; exact ⟨HKK.out, by decide, by decide⟩)).mono ?_
 rw [exf_try]
 rintro e2 w4 ⟨rfl, Q4, hF4, hQ4, ht4⟩
 have HF4 := Lib.hid hF4
 have HX4 := Lib.hid ((ht4.block X (block_lt HX3.out) (fun h => by have := (HQ2.out X h).1; omega)).trans HX3.out)
 have HB4 : Hid (Below W.heap.size W w4) := Lib.hid (HB3.out.trans (ht4.below HB3.out.size (fun j hj => by rw [HHX.out]; exact (HQ2.out j hj).2)))
 clear hF4 hQ4 ht4
 have hg := fun w h => HI.out.get w B [(((4, 0, 0) : K), (⟨0, 3, 0, 0, 0, 0⟩ : Fv))] Q4 ((4, 0, 0) : K) h HKK.out
 rw [exf_get] at hg
 have HGET := Lib.hid hg
 clear hg
 have x0 := block_cell (j := 0) HX4.out rfl
 have x1 := block_cell (j := 1) HX4.out rfl
 have x2 := block_cell (j := 2) HX4.out rfl
 go_wp2_with fail
 clear x0 x1 x2
 refine (HGET.out _ HF4.out).mono ?_
 rintro e3 w5 ⟨rfl, hb5⟩
 simp only [Option.getD_some, Option.isSome_some]
 have hbn : Below w5.heap.size w5 (w5.alloc (.cells #[.int .i64 0, .int .i64 3, .int .i64 0, .int .i64 0, .int .i64 0, .int .i64 0] 42)) := (Below.refl _ _).alloc (Nat.le_refl _) _
 have HG5 := Lib.hid (alloc_block w5 (.cells #[.int .i64 0, .int .i64 3, .int .i64 0, .int .i64 0, .int .i64 0, .int .i64 0] 42))
 have HB5 := Lib.hid (HB4.out.trans ((hb5.trans (hbn.mono hb5.size)).mono HB4.out.size))
 clear hb5 hbn
 go_upto_region 5 with (fail)
 generalize w5.alloc (.cells #[.int .i64 0, .int .i64 3, .int .i64 0, .int .i64 0, .int .i64 0, .int .i64 0] 42) = W5 at *
 generalize w5.heap.size = G at *
 obtain ⟨q0, q1, q2, q3, q4, q5⟩ := fcells HG5.out
 go_wp2_with fail
 go_ret
 exact ⟨rfl, HB5.out⟩
end Go.Proofs.Ytmdldbchdnkfcaa
