import Derived.Test.YtmdldbchdnkfcaaPA39
namespace Go.Proofs.Ytmdldbchdnkfcaa
open Go.RowKit Go.ChangeShapes Go.WideShapes
set_option linter.unusedVariables false
set_option linter.unusedSimpArgs false
set_option maxRecDepth 10000
theorem get_fok {M : List FW} (h : FOk M) {k : K} {f : Fv} (hg : getG M k = some f) : Fok f := h.fok _ (g_get_some_mem hg)
theorem ch_grant (M : List FW) (k : K) (d : Int) : chE M k (fun f => grantE f d) = fdoE 0 M k d ∧ chL M k (fun f => grantE f d) (fun f => grantF f d) = fdoL 0 M k d := by
 cases hg : getG M k with
 | none => exact ⟨(ch_none _ (fun f => grantF f d) hg).1.trans (fdoL_none hg).2.symm, (ch_none _ _ hg).2.trans (fdoL_none hg).1.symm⟩
 | some f => exact ⟨(ch_some _ (fun f => grantF f d) hg).1.trans (fdoL_some (c := 0) hg).2.symm, (ch_some _ _ hg).2.trans (fdoL_some (c := 0) hg).1.symm⟩
set_option maxHeartbeats 1000000 in
theorem fu_grant (k : K) (hk : Kok k) (d : Int) (hd : I64 d) (W : World) (B T : Nat) (mb : Option Nat) (M : List FW) (h : FuT W B T mb M) (hM : FOk M) (hn : M.length ≤ 1000) :
 Calls Try.prog 19 #[.pointer (some ⟨B, 0, none⟩), .agg #[.int .u8 k.1, .int .u8 k.2.1, .int .u8 k.2.2, .int .i64 d]] W fun e w' => e = .returned (.int .i64 (fdoE 0 M k d)) ∧ Acted Fu W w' B (fdoL 0 M k d) (FuQ B T mb) := by
 have hb0 : Below W.heap.size W (W.alloc (.cells #[.int .u8 k.1, .int .u8 k.2.1, .int .u8 k.2.2, .int .i64 d] 34)) := (Below.refl _ _).alloc (Nat.le_refl _) _
 have hx0 := alloc_block W (.cells #[.int .u8 k.1, .int .u8 k.2.1, .int .u8 k.2.2, .int .i64 d] 34)
 have HC := Lib.hid (change_grant (fun f => grantF f d) (fun f => grantE f d) W.heap.size k hk _ B T mb M (h.later hb0) hn (fun f w' hg hb => cl_grant f k d _ w' (get_fok hM hg) hd (block_later hx0 hb)))
 rw [(ch_grant M k d).1, (ch_grant M k d).2] at HC
 generalize fdoE 0 M k d = z at *
 generalize fdoL 0 M k d = L at *
 have HB0 := Lib.hid hb0
 have HX0 := Lib.hid hx0
 obtain ⟨X, hX⟩ : ∃ X, W.heap.size = X := ⟨_, rfl⟩
 have HHX := Lib.hid hX
 rw [hX] at HX0 HC
 clear hb0 hx0 h hM hk hd hn
 go_enter Try.func19, Try.ntmps19
 go_upto_region 1 with (fail)
 clear hX
 generalize W.alloc (.cells #[.int .u8 k.1, .int .u8 k.2.1, .int .u8 k.2.2, .int .i64 d] 34) = V0 at *
 have x0 := block_cell (j := 0) HX0.out rfl
 have x1 := block_cell (j := 1) HX0.out rfl
 have x2 := block_cell (j := 2) HX0.out rfl
 go_wp2_with fail
 clear x0 x1 x2
 refine HC.out.mono ?_
 rintro e1 w1 ⟨rfl, hact⟩
 have HA := Lib.hid (hact.ahead HB0.out)
 clear hact HC
 go_wp2_with fail
 go_ret
 exact ⟨rfl, HA.out⟩
theorem ch_undo (M : List FW) (k : K) (d : Int) : chE M k (fun f => moveE f d (-1) 0 0 (-1)) = fdoE 1 M k d ∧ chL M k (fun f => moveE f d (-1) 0 0 (-1)) (fun f => moveF f d (-1) 0 0 (-1)) = fdoL 1 M k d := by
 cases hg : getG M k with
 | none => exact ⟨(ch_none _ (fun f => moveF f d (-1) 0 0 (-1)) hg).1.trans (fdoL_none hg).2.symm, (ch_none _ _ hg).2.trans (fdoL_none hg).1.symm⟩
 | some f => exact ⟨(ch_some _ (fun f => moveF f d (-1) 0 0 (-1)) hg).1.trans (fdoL_some (c := 1) hg).2.symm, (ch_some _ _ hg).2.trans (fdoL_some (c := 1) hg).1.symm⟩
set_option maxHeartbeats 1000000 in
theorem fu_undo (k : K) (hk : Kok k) (d : Int) (hd : I64 d) (W : World) (B T : Nat) (mb : Option Nat) (M : List FW) (h : FuT W B T mb M) (hM : FOk M) (hn : M.length ≤ 1000) :
 Calls Try.prog 20 #[.pointer (some ⟨B, 0, none⟩), .agg #[.int .u8 k.1, .int .u8 k.2.1, .int .u8 k.2.2, .int .i64 d]] W fun e w' => e = .returned (.int .i64 (fdoE 1 M k d)) ∧ Acted Fu W w' B (fdoL 1 M k d) (FuQ B T mb) := by
 have hb0 : Below W.heap.size W (W.alloc (.cells #[.int .u8 k.1, .int .u8 k.2.1, .int .u8 k.2.2, .int .i64 d] 34)) := (Below.refl _ _).alloc (Nat.le_refl _) _
 have hx0 := alloc_block W (.cells #[.int .u8 k.1, .int .u8 k.2.1, .int .u8 k.2.2, .int .i64 d] 34)
 have HC := Lib.hid (change_undo (fun f => moveF f d (-1) 0 0 (-1)) (fun f => moveE f d (-1) 0 0 (-1)) W.heap.size k hk _ B T mb M (h.later hb0) hn (fun f w' hg hb => cl_undo f k d _ w' (get_fok hM hg) hd (block_later hx0 hb)))
 rw [(ch_undo M k d).1, (ch_undo M k d).2] at HC
 generalize fdoE 1 M k d = z at *
 generalize fdoL 1 M k d = L at *
 have HB0 := Lib.hid hb0
 have HX0 := Lib.hid hx0
 obtain ⟨X, hX⟩ : ∃ X, W.heap.size = X := ⟨_, rfl⟩
 have HHX := Lib.hid hX
 rw [hX] at HX0 HC
 clear hb0 hx0 h hM hk hd hn
 go_enter Try.func20, Try.ntmps20
 go_upto_region 1 with (fail)
 clear hX
 generalize W.alloc (.cells #[.int .u8 k.1, .int .u8 k.2.1, .int .u8 k.2.2, .int .i64 d] 34) = V0 at *
 have x0 := block_cell (j := 0) HX0.out rfl
 have x1 := block_cell (j := 1) HX0.out rfl
 have x2 := block_cell (j := 2) HX0.out rfl
 go_wp2_with fail
 clear x0 x1 x2
 refine HC.out.mono ?_
 rintro e1 w1 ⟨rfl, hact⟩
 have HA := Lib.hid (hact.ahead HB0.out)
 clear hact HC
 go_wp2_with fail
 go_ret
 exact ⟨rfl, HA.out⟩
theorem ch_settle (M : List FW) (k : K) (d : Int) : chE M k (fun f => moveE f d 0 1 1 0) = fdoE 2 M k d ∧ chL M k (fun f => moveE f d 0 1 1 0) (fun f => moveF f d 0 1 1 0) = fdoL 2 M k d := by
 cases hg : getG M k with
 | none => exact ⟨(ch_none _ (fun f => moveF f d 0 1 1 0) hg).1.trans (fdoL_none hg).2.symm, (ch_none _ _ hg).2.trans (fdoL_none hg).1.symm⟩
 | some f => exact ⟨(ch_some _ (fun f => moveF f d 0 1 1 0) hg).1.trans (fdoL_some (c := 2) hg).2.symm, (ch_some _ _ hg).2.trans (fdoL_some (c := 2) hg).1.symm⟩
set_option maxHeartbeats 1000000 in
theorem fu_settle (k : K) (hk : Kok k) (d : Int) (hd : I64 d) (W : World) (B T : Nat) (mb : Option Nat) (M : List FW) (h : FuT W B T mb M) (hM : FOk M) (hn : M.length ≤ 1000) :
 Calls Try.prog 33 #[.pointer (some ⟨B, 0, none⟩), .agg #[.int .u8 k.1, .int .u8 k.2.1, .int .u8 k.2.2, .int .i64 d]] W fun e w' => e = .returned (.int .i64 (fdoE 2 M k d)) ∧ Acted Fu W w' B (fdoL 2 M k d) (FuQ B T mb) := by
 have hb0 : Below W.heap.size W (W.alloc (.cells #[.int .u8 k.1, .int .u8 k.2.1, .int .u8 k.2.2, .int .i64 d] 34)) := (Below.refl _ _).alloc (Nat.le_refl _) _
 have hx0 := alloc_block W (.cells #[.int .u8 k.1, .int .u8 k.2.1, .int .u8 k.2.2, .int .i64 d] 34)
 have HC := Lib.hid (change_settle (fun f => moveF f d 0 1 1 0) (fun f => moveE f d 0 1 1 0) W.heap.size k hk _ B T mb M (h.later hb0) hn (fun f w' hg hb => cl_settle f k d _ w' (get_fok hM hg) hd (block_later hx0 hb)))
 rw [(ch_settle M k d).1, (ch_settle M k d).2] at HC
 generalize fdoE 2 M k d = z at *
 generalize fdoL 2 M k d = L at *
 have HB0 := Lib.hid hb0
 have HX0 := Lib.hid hx0
 obtain ⟨X, hX⟩ : ∃ X, W.heap.size = X := ⟨_, rfl⟩
 have HHX := Lib.hid hX
 rw [hX] at HX0 HC
 clear hb0 hx0 h hM hk hd hn
 go_enter Try.func33, Try.ntmps33
 go_upto_region 1 with (fail)
 clear hX
 generalize W.alloc (.cells #[.int .u8 k.1, .int .u8 k.2.1, .int .u8 k.2.2, .int .i64 d] 34) = V0 at *
 have x0 := block_cell (j := 0) HX0.out rfl
 have x1 := block_cell (j := 1) HX0.out rfl
 have x2 := block_cell (j := 2) HX0.out rfl
 go_wp2_with fail
 clear x0 x1 x2
 refine HC.out.mono ?_
 rintro e1 w1 ⟨rfl, hact⟩
 have HA := Lib.hid (hact.ahead HB0.out)
 clear hact HC
 go_wp2_with fail
 go_ret
 exact ⟨rfl, HA.out⟩
theorem ch_back (M : List FW) (k : K) (d : Int) : chE M k (fun f => moveE f d (-1) 0 0 0) = fdoE 3 M k d ∧ chL M k (fun f => moveE f d (-1) 0 0 0) (fun f => moveF f d (-1) 0 0 0) = fdoL 3 M k d := by
 cases hg : getG M k with
 | none => exact ⟨(ch_none _ (fun f => moveF f d (-1) 0 0 0) hg).1.trans (fdoL_none hg).2.symm, (ch_none _ _ hg).2.trans (fdoL_none hg).1.symm⟩
 | some f => exact ⟨(ch_some _ (fun f => moveF f d (-1) 0 0 0) hg).1.trans (fdoL_some (c := 3) hg).2.symm, (ch_some _ _ hg).2.trans (fdoL_some (c := 3) hg).1.symm⟩
set_option maxHeartbeats 1000000 in
theorem fu_back (k : K) (hk : Kok k) (d : Int) (hd : I64 d) (W : World) (B T : Nat) (mb : Option Nat) (M : List FW) (h : FuT W B T mb M) (hM : FOk M) (hn : M.length ≤ 1000) :
 Calls Try.prog 34 #[.pointer (some ⟨B, 0, none⟩), .agg #[.int .u8 k.1, .int .u8 k.2.1, .int .u8 k.2.2, .int .i64 d]] W fun e w' => e = .returned (.int .i64 (fdoE 3 M k d)) ∧ Acted Fu W w' B (fdoL 3 M k d) (FuQ B T mb) := by
 have hb0 : Below W.heap.size W (W.alloc (.cells #[.int .u8 k.1, .int .u8 k.2.1, .int .u8 k.2.2, .int .i64 d] 34)) := (Below.refl _ _).alloc (Nat.le_refl _) _
 have hx0 := alloc_block W (.cells #[.int .u8 k.1, .int .u8 k.2.1, .int .u8 k.2.2, .int .i64 d] 34)
 have HC := Lib.hid (change_back (fun f => moveF f d (-1) 0 0 0) (fun f => moveE f d (-1) 0 0 0) W.heap.size k hk _ B T mb M (h.later hb0) hn (fun f w' hg hb => cl_back f k d _ w' (get_fok hM hg) hd (block_later hx0 hb)))
 rw [(ch_back M k d).1, (ch_back M k d).2] at HC
 generalize fdoE 3 M k d = z at *
 generalize fdoL 3 M k d = L at *
 have HB0 := Lib.hid hb0
 have HX0 := Lib.hid hx0
 obtain ⟨X, hX⟩ : ∃ X, W.heap.size = X := ⟨_, rfl⟩
 have HHX := Lib.hid hX
 rw [hX] at HX0 HC
 clear hb0 hx0 h hM hk hd hn
 go_enter Try.func34, Try.ntmps34
 go_upto_region 1 with (fail)
 clear hX
 generalize W.alloc (.cells #[.int .u8 k.1, .int .u8 k.2.1, .int .u8 k.2.2, .int .i64 d] 34) = V0 at *
 have x0 := block_cell (j := 0) HX0.out rfl
 have x1 := block_cell (j := 1) HX0.out rfl
 have x2 := block_cell (j := 2) HX0.out rfl
 go_wp2_with fail
 clear x0 x1 x2
 refine HC.out.mono ?_
 rintro e1 w1 ⟨rfl, hact⟩
 have HA := Lib.hid (hact.ahead HB0.out)
 clear hact HC
 go_wp2_with fail
 go_ret
 exact ⟨rfl, HA.out⟩
theorem ch_forth (M : List FW) (k : K) (d : Int) : chE M k (fun f => moveE f d 1 0 0 0) = fdoE 4 M k d ∧ chL M k (fun f => moveE f d 1 0 0 0) (fun f => moveF f d 1 0 0 0) = fdoL 4 M k d := by
 cases hg : getG M k with
 | none => exact ⟨(ch_none _ (fun f => moveF f d 1 0 0 0) hg).1.trans (fdoL_none hg).2.symm, (ch_none _ _ hg).2.trans (fdoL_none hg).1.symm⟩
 | some f => exact ⟨(ch_some _ (fun f => moveF f d 1 0 0 0) hg).1.trans (fdoL_some (c := 4) hg).2.symm, (ch_some _ _ hg).2.trans (fdoL_some (c := 4) hg).1.symm⟩
set_option maxHeartbeats 1000000 in
theorem fu_forth (k : K) (hk : Kok k) (d : Int) (hd : I64 d) (W : World) (B T : Nat) (mb : Option Nat) (M : List FW) (h : FuT W B T mb M) (hM : FOk M) (hn : M.length ≤ 1000) :
 Calls Try.prog 35 #[.pointer (some ⟨B, 0, none⟩), .agg #[.int .u8 k.1, .int .u8 k.2.1, .int .u8 k.2.2, .int .i64 d]] W fun e w' => e = .returned (.int .i64 (fdoE 4 M k d)) ∧ Acted Fu W w' B (fdoL 4 M k d) (FuQ B T mb) := by
 have hb0 : Below W.heap.size W (W.alloc (.cells #[.int .u8 k.1, .int .u8 k.2.1, .int .u8 k.2.2, .int .i64 d] 34)) := (Below.refl _ _).alloc (Nat.le_refl _) _
 have hx0 := alloc_block W (.cells #[.int .u8 k.1, .int .u8 k.2.1, .int .u8 k.2.2, .int .i64 d] 34)
 have HC := Lib.hid (change_forth (fun f => moveF f d 1 0 0 0) (fun f => moveE f d 1 0 0 0) W.heap.size k hk _ B T mb M (h.later hb0) hn (fun f w' hg hb => cl_forth f k d _ w' (get_fok hM hg) hd (block_later hx0 hb)))
 rw [(ch_forth M k d).1, (ch_forth M k d).2] at HC
 generalize fdoE 4 M k d = z at *
 generalize fdoL 4 M k d = L at *
 have HB0 := Lib.hid hb0
 have HX0 := Lib.hid hx0
 obtain ⟨X, hX⟩ : ∃ X, W.heap.size = X := ⟨_, rfl⟩
 have HHX := Lib.hid hX
 rw [hX] at HX0 HC
 clear hb0 hx0 h hM hk hd hn
 go_enter Try.func35, Try.ntmps35
 go_upto_region 1 with (fail)
 clear hX
 generalize W.alloc (.cells #[.int .u8 k.1, .int .u8 k.2.1, .int .u8 k.2.2, .int .i64 d] 34) = V0 at *
 have x0 := block_cell (j := 0) HX0.out rfl
 have x1 := block_cell (j := 1) HX0.out rfl
 have x2 := block_cell (j := 2) HX0.out rfl
 go_wp2_with fail
 clear x0 x1 x2
 refine HC.out.mono ?_
 rintro e1 w1 ⟨rfl, hact⟩
 have HA := Lib.hid (hact.ahead HB0.out)
 clear hact HC
 go_wp2_with fail
 go_ret
 exact ⟨rfl, HA.out⟩
theorem ch_drop (M : List FW) (k : K) (d : Int) : chE M k (fun f => moveE f d 0 0 0 (-1)) = fdoE 5 M k d ∧ chL M k (fun f => moveE f d 0 0 0 (-1)) (fun f => moveF f d 0 0 0 (-1)) = fdoL 5 M k d := by
 cases hg : getG M k with
 | none => exact ⟨(ch_none _ (fun f => moveF f d 0 0 0 (-1)) hg).1.trans (fdoL_none hg).2.symm, (ch_none _ _ hg).2.trans (fdoL_none hg).1.symm⟩
 | some f => exact ⟨(ch_some _ (fun f => moveF f d 0 0 0 (-1)) hg).1.trans (fdoL_some (c := 5) hg).2.symm, (ch_some _ _ hg).2.trans (fdoL_some (c := 5) hg).1.symm⟩
set_option maxHeartbeats 1000000 in
theorem fu_drop (k : K) (hk : Kok k) (d : Int) (hd : I64 d) (W : World) (B T : Nat) (mb : Option Nat) (M : List FW) (h : FuT W B T mb M) (hM : FOk M) (hn : M.length ≤ 1000) :
 Calls Try.prog 36 #[.pointer (some ⟨B, 0, none⟩), .agg #[.int .u8 k.1, .int .u8 k.2.1, .int .u8 k.2.2, .int .i64 d]] W fun e w' => e = .returned (.int .i64 (fdoE 5 M k d)) ∧ Acted Fu W w' B (fdoL 5 M k d) (FuQ B T mb) := by
 have hb0 : Below W.heap.size W (W.alloc (.cells #[.int .u8 k.1, .int .u8 k.2.1, .int .u8 k.2.2, .int .i64 d] 34)) := (Below.refl _ _).alloc (Nat.le_refl _) _
 have hx0 := alloc_block W (.cells #[.int .u8 k.1, .int .u8 k.2.1, .int .u8 k.2.2, .int .i64 d] 34)
 have HC := Lib.hid (change_drop (fun f => moveF f d 0 0 0 (-1)) (fun f => moveE f d 0 0 0 (-1)) W.heap.size k hk _ B T mb M (h.later hb0) hn (fun f w' hg hb => cl_drop f k d _ w' (get_fok hM hg) hd (block_later hx0 hb)))
 rw [(ch_drop M k d).1, (ch_drop M k d).2] at HC
 generalize fdoE 5 M k d = z at *
 generalize fdoL 5 M k d = L at *
 have HB0 := Lib.hid hb0
 have HX0 := Lib.hid hx0
 obtain ⟨X, hX⟩ : ∃ X, W.heap.size = X := ⟨_, rfl⟩
 have HHX := Lib.hid hX
 rw [hX] at HX0 HC
 clear hb0 hx0 h hM hk hd hn
 go_enter Try.func36, Try.ntmps36
 go_upto_region 1 with (fail)
 clear hX
 generalize W.alloc (.cells #[.int .u8 k.1, .int .u8 k.2.1, .int .u8 k.2.2, .int .i64 d] 34) = V0 at *
 have x0 := block_cell (j := 0) HX0.out rfl
 have x1 := block_cell (j := 1) HX0.out rfl
 have x2 := block_cell (j := 2) HX0.out rfl
 go_wp2_with fail
 clear x0 x1 x2
 refine HC.out.mono ?_
 rintro e1 w1 ⟨rfl, hact⟩
 have HA := Lib.hid (hact.ahead HB0.out)
 clear hact HC
 go_wp2_with fail
 go_ret
 exact ⟨rfl, HA.out⟩
theorem ch_set (M : List FW) (k : K) (x : Fv) : chE M k (fun _ => if goodF x = true then 0 else 12) = fsetE M k x ∧ chL M k (fun _ => if goodF x = true then 0 else 12) (fun f => if goodF x = true then x else f) = fsetL M k x := by
 unfold fsetE fsetL
 cases hg : getG M k with
 | none =>
  refine ⟨(ch_none _ (fun f => f) hg).1.trans ?_, (ch_none _ _ hg).2.trans ?_⟩
  · simp
  · simp
 | some f =>
  refine ⟨(ch_some _ (fun f => f) hg).1.trans ?_, (ch_some _ _ hg).2.trans ?_⟩
  · simp
  · by_cases hx : goodF x = true
    · simp [hx]
    · simp [hx]
set_option maxHeartbeats 1000000 in
theorem fu_set (k : K) (hk : Kok k) (x : Fv) (W : World) (B T : Nat) (mb : Option Nat) (M : List FW) (h : FuT W B T mb M) (hn : M.length ≤ 1000) :
 Calls Try.prog 15 #[.pointer (some ⟨B, 0, none⟩), .agg #[.int .u8 k.1, .int .u8 k.2.1, .int .u8 k.2.2], .agg (fcs x)] W fun e w' => e = .returned (.int .i64 (fsetE M k x)) ∧ Acted Fu W w' B (fsetL M k x) (FuQ B T mb) := by
 obtain ⟨hb0, hx0, hy0⟩ := ftwo_boxes W #[.int .u8 k.1, .int .u8 k.2.1, .int .u8 k.2.2] (fcs x) 32 42
 have HC := Lib.hid (change_set (fun f => if goodF x = true then x else f) (fun _ => if goodF x = true then 0 else 12) (W.heap.size + 1) k hk _ B T mb M (h.later hb0) hn (fun f w' hg hb => cl_set f x _ w' (block_later hy0 hb)))
 rw [(ch_set M k x).1, (ch_set M k x).2] at HC
 generalize fsetE M k x = z at *
 generalize fsetL M k x = L at *
 have HB0 := Lib.hid hb0
 have HX0 := Lib.hid hx0
 obtain ⟨X, hX⟩ : ∃ X, W.heap.size = X := ⟨_, rfl⟩
 have HHX := Lib.hid hX
 rw [hX] at HX0 HC
 obtain ⟨v1, v2, v3, v4, v5, v6⟩ := x
 clear hb0 hx0 hy0 h hk hn
 go_enter Try.func15, Try.ntmps15
 go_upto_region 1 with (fail)
 clear hX
 generalize (W.alloc (.cells #[.int .u8 k.1, .int .u8 k.2.1, .int .u8 k.2.2] 32)).alloc (.cells #[.int .i64 v1, .int .i64 v2, .int .i64 v3, .int .i64 v4, .int .i64 v5, .int .i64 v6] 42) = V0 at *
 have x0 := block_cell (j := 0) HX0.out rfl
 have x1 := block_cell (j := 1) HX0.out rfl
 have x2 := block_cell (j := 2) HX0.out rfl
 go_wp2_with fail
 clear x0 x1 x2
 refine HC.out.mono ?_
 rintro e1 w1 ⟨rfl, hact⟩
 have HA := Lib.hid (hact.ahead HB0.out)
 clear hact HC
 go_wp2_with fail
 go_ret
 exact ⟨rfl, HA.out⟩
structure FuM (W w : World) (B T : Nat) (mb : Option Nat) (M : List FW) : Prop where
 fu : FuT w B T mb M
 new : ∀ j, FuQ B T mb j → W.heap.size ≤ j
 below : Below W.heap.size W w
theorem FuM.later {W w w' : World} {B T : Nat} {mb : Option Nat} {M : List FW} (h : FuM W w B T mb M) (hb : Below w.heap.size w w') : FuM W w' B T mb M :=
 ⟨h.fu.later hb, h.new, h.below.trans (hb.mono h.below.size)⟩
theorem FuM.put {W w w3 : World} {B T : Nat} {mb : Option Nat} {M M' : List FW} (h : FuM W w B T mb M) (hp : FPuts 85 w T mb M' w3) : ∃ mb', FuM W w3 B T mb' M' := by
 obtain ⟨Q', ⟨T', mb', h1, rfl⟩, h2, h3⟩ := h.fu.put (Below.refl _ _) hp
 have hB : some (Value.pointer (some ⟨T', 0, none⟩)) = some (Value.pointer (some ⟨T, 0, none⟩)) := by
  obtain ⟨mb2, g1, g2, g3⟩ := hp
  have hbk := g3.block B (block_lt h.fu.b) (fun e => by rcases e with e | e; exact h.fu.ne e; exact h.fu.nm e)
  have e1 := block_cell (j := 0) h1.b rfl
  have e2 := block_cell (j := 0) (hbk.trans h.fu.b) rfl
  exact e1.symm.trans e2
 have hT : T' = T := by cases hB; rfl
 subst hT
 refine ⟨mb', h1, fun j hj => ?_, h.below.trans (h3.below h.below.size h.new)⟩
 rcases h2 j hj with e | e
 · exact h.new j e
 · exact Nat.le_trans h.below.size e
set_option maxHeartbeats 4000000 in
theorem funew_any (p : Option Addr) (n c : Nat) (L : List FD) (W : World) (hL : FDL W p n c L) (hn : n ≤ 40) (hx : ∀ x ∈ L, FDok x) :
 Calls Try.prog 8 #[.slice p n c] W fun e w' => ∃ B Q, e = .returned (.pointer (some ⟨B, 0, none⟩)) ∧ Fu w' B (fnewL L) Q ∧ (∀ j, Q j → W.heap.size ≤ j) ∧ Below W.heap.size W w' := by
 have HL := Lib.hid hL
 have HST := Lib.hid fun j (hj : j < n) => fnewL_take L j (by rw [hL.len]; exact hj)
 have HLE := Lib.hid fun j (hj : j ≤ n) => (show (fnewL (L.take j)).length ≤ j from by have := fnewL_len (L.take j) []; simp only [List.length_take, List.length_nil] at this; exact Nat.le_trans this (by omega))
 have HEND : Hid (fnewL (L.take n) = fnewL L) := Lib.hid (by rw [List.take_of_length_le (by rw [hL.len]; exact Nat.le_refl _)])
 have HKO := Lib.hid fun j (hj : j < n) => (show Kok (L.getD j fd0).1 from (hx _ (by rw [List.getD, List.getElem?_eq_getElem (by rw [hL.len]; exact hj)]; exact List.getElem_mem _)).1)
 have hcap := hL.cap
 have hmax := hL.max
 unfold maxLen at hmax
 have h0 := fu_made (W := W) (w1 := W.alloc (.cells #[.map none] 85)) (T := W.heap.size) (mb := none) (M := []) (new_ftab _ W) (fun j hj => by rcases hj with rfl | hj; exact Nat.le_refl _; cases hj) ((Below.refl _ _).alloc (Nat.le_refl _) _)
 have HM0 : Hid (FuM W _ _ W.heap.size none []) := Lib.hid ⟨h0.1, h0.2.1, h0.2.2⟩
 clear hL hx h0
 go_enter Try.func8, Try.ntmps8
 go_wp2_with fail
 refine (ftnew_any W).mono ?_
 rintro e1 w1 ⟨rfl, rfl⟩
 generalize W.alloc (.cells #[.map none] 85) = V0 at *
 generalize W.heap.size = T at *
 go_upto_region 2 with (fail)
 generalize V0.alloc (.cells #[.pointer (some ⟨T, 0, none⟩)] 61) = V1 at *
 generalize V0.heap.size = B at *
 go_wp2_with fail
 go_loopw [13] (fun i wr => ∃ (j : Nat) (mb : Option Nat), j ≤ n ∧ i = .int .i64 (j : Int) ∧ Hid (FuM W wr B T mb (fnewL (L.take j)))) (fun i _ => n - (Go.RowKit.intOf i).toNat)
 case atStart => exact ⟨0, none, Nat.zero_le _, rfl, HM0⟩
 case round =>
  obtain ⟨j, mb, hj, rfl, HM⟩ := hrel
  by_cases hlt : j < n
  · have t1 : (j : Int) < n := by omega
    obtain ⟨b, off, rfl, hbl, c0, c1, c2, c3, c4, c5⟩ := fdcells (HL.out.later HM.out.below) hlt
    have hst := HST.out j hlt
    have hle := HLE.out j hj
    have hko := HKO.out j hlt
    generalize L.getD j fd0 = x at *
    obtain ⟨k, lo, init, hi⟩ := x
    have hnw := fun w => fnew_any k.1 k.2.1 k.2.2 lo init hi w
    have HLEN : Hid ((fnewL (L.take j)).length ≤ 1000) := Lib.hid (by omega)
    have HKK := Lib.hid hko
    obtain ⟨s', hs'⟩ : ∃ s', fnewL (L.take (j + 1)) = s' := ⟨_, rfl⟩
    rw [hs'] at hst
    have HSE := Lib.hid hs'
    generalize fnewL (L.take j) = S at *
    clear hs' hle hko
    have hba : Below wr.heap.size wr (wr.alloc (.cells #[.int .u8 k.1, .int .u8 k.2.1, .int .u8 k.2.2, .int .i64 lo, .int .i64 init, .int .i64 hi] 63)) := (Below.refl _ _).alloc (Nat.le_refl _) _
    have HMA := Lib.hid (HM.out.later hba)
    have HDA := Lib.hid (alloc_block wr (.cells #[.int .u8 k.1, .int .u8 k.2.1, .int .u8 k.2.2, .int .i64 lo, .int .i64 init, .int .i64 hi] 63))
    clear hba HM
    go_upto_region 5 with (fail)
    clear c0 c1 c2 c3 c4 c5
    generalize wr.alloc (.cells #[.int .u8 k.1, .int .u8 k.2.1, .int .u8 k.2.2, .int .i64 lo, .int .i64 init, .int .i64 hi] 63) = W1 at *
    generalize wr.heap.size = D at *
    have d0 := block_cell (j := 0) HDA.out rfl
    have d1 := block_cell (j := 1) HDA.out rfl
    have d2 := block_cell (j := 2) HDA.out rfl
    have d3 := block_cell (j := 3) HDA.out rfl
    have d4 := block_cell (j := 4) HDA.out rfl
    have d5 := block_cell (j := 5) HDA.out rfl
    by_cases hok : lo ≤ init ∧ init ≤ hi
    · rw [show newF lo init hi = (⟨lo, hi, init, init, init, init⟩, 0) from if_pos hok] at hnw
      have hs : s' = putG S k ⟨lo, hi, init, init, init, init⟩ := hst.trans (if_pos hok)
      have HS := Lib.hid hs
      have HN := Lib.hid hnw
      have HOK := Lib.hid hok
      clear hst hs hnw hok hbl
      go_wp2_with fail
      clear d0 d1 d2 d3 d4 d5
      refine (HN.out _).mono ?_
      rintro e1 w1 ⟨rfl, hb1⟩
      have hbn : Below w1.heap.size w1 (w1.alloc (.cells #[.int .i64 lo, .int .i64 hi, .int .i64 init, .int .i64 init, .int .i64 init, .int .i64 init] 42)) := (Below.refl _ _).alloc (Nat.le_refl _) _
      have HG1 := Lib.hid (alloc_block w1 (.cells #[.int .i64 lo, .int .i64 hi, .int .i64 init, .int .i64 init, .int .i64 init, .int .i64 init] 42))
      have HM1 := Lib.hid ((HMA.out.later hb1).later hbn)
      have HD1 := Lib.hid (block_later (block_later HDA.out hb1) hbn)
      clear hb1 hbn HMA HDA
      go_upto_region 6 with (fail)
      generalize w1.alloc (.cells #[.int .i64 lo, .int .i64 hi, .int .i64 init, .int .i64 init, .int .i64 init, .int .i64 init] 42) = W2 at *
      generalize w1.heap.size = G at *
      have c0 := block_cell (j := 0) HM1.out.fu.b rfl
      have x0 := block_cell (j := 0) HD1.out rfl
      have x1 := block_cell (j := 1) HD1.out rfl
      have x2 := block_cell (j := 2) HD1.out rfl
      obtain ⟨y0, y1, y2, y3, y4, y5⟩ := fcells HG1.out
      have HMD := Lib.hid (HM1.out.later (Below.refl _ _).drew)
      have HP := Lib.hid (ftput_any _ k HKK.out ⟨lo, hi, init, init, init, init⟩ W2.drew T mb S HMD.out.fu.t HLEN.out)
      clear HM1 HG1 HD1
      go_wp2_with fail
      go_still_tail 7, (by kernel_rfl)
      repeat still_step
      change wpList _ _ _ _ _ W2.drew
      go_wp2_with fail
      refine HP.out.mono ?_
      rintro e3 w3 ⟨rfl, hp⟩
      obtain ⟨mb3, hm3⟩ := HMD.out.put hp
      have HM3 := Lib.hid hm3
      clear hp hm3 c0 x0 x1 x2 y0 y1 y2 y3 y4 y5 HMD HP
      go_wp2_with fail
      go_roundw
      case rel => exact ⟨j + 1, mb3, by omega, by go_num, Lib.hid (by rw [HSE.out, HS.out]; exact HM3.out)⟩
      case measure =>
       simp [Go.RowKit.intOf]
       omega
    · rw [show newF lo init hi = (⟨0, 0, 0, 0, 0, 0⟩, 3) from if_neg hok] at hnw
      have hs : s' = S := hst.trans (if_neg hok)
      have HS := Lib.hid hs
      have HN := Lib.hid hnw
      have HOK := Lib.hid hok
      clear hst hs hnw hok hbl
      go_wp2_with fail
      clear d0 d1 d2 d3 d4 d5
      refine (HN.out _).mono ?_
      rintro e1 w1 ⟨rfl, hb1⟩
      have hbn : Below w1.heap.size w1 (w1.alloc (.cells #[.int .i64 0, .int .i64 0, .int .i64 0, .int .i64 0, .int .i64 0, .int .i64 0] 42)) := (Below.refl _ _).alloc (Nat.le_refl _) _
      have HM1 := Lib.hid ((HMA.out.later hb1).later hbn)
      clear hb1 hbn HMA HDA
      go_wp2_with fail
      go_roundw
      case rel => exact ⟨j + 1, mb, by omega, by go_num, Lib.hid (by rw [HSE.out, HS.out]; exact HM1.out)⟩
      case measure =>
       simp [Go.RowKit.intOf]
       omega
  · have hjn : j = n := by omega
    have t1 : ¬ (j : Int) < n := by omega
    rw [hjn, HEND.out] at HM
    clear hjn
    go_wp2_with fail
    go_ret
    exact ⟨B, rfl, FuQ B T mb, ⟨T, mb, HM.out.fu, rfl⟩, HM.out.new, HM.out.below⟩
end Go.Proofs.Ytmdldbchdnkfcaa
