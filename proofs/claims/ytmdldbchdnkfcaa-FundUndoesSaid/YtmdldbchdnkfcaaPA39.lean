import Derived.Test.YtmdldbchdnkfcaaPA38
namespace Go.Proofs.Ytmdldbchdnkfcaa
open Go.RowKit Go.ChangeShapes Go.WideShapes
set_option linter.unusedVariables false
set_option linter.unusedSimpArgs false
set_option maxRecDepth 10000
def chE (M : List FW) (k : K) (z : Fv → Int) : Int := match getG M k with | none => 10 | some f => z f
def chL (M : List FW) (k : K) (z : Fv → Int) (F : Fv → Fv) : List FW := match getG M k with | none => M | some f => if z f = 0 then putG M k (F f) else M
theorem ch_none {M : List FW} {k : K} (z : Fv → Int) (F : Fv → Fv) (h : getG M k = none) : chE M k z = 10 ∧ chL M k z F = M := by
 unfold chE chL
 rw [h]
 exact ⟨rfl, rfl⟩
theorem ch_some {M : List FW} {k : K} (z : Fv → Int) (F : Fv → Fv) {f : Fv} (h : getG M k = some f) : chE M k z = z f ∧ chL M k z F = if z f = 0 then putG M k (F f) else M := by
 unfold chE chL
 rw [h]
 exact ⟨rfl, rfl⟩
set_option maxHeartbeats 2000000 in
theorem change_grant (F : Fv → Fv) (z : Fv → Int) (cb : Nat) (k : K) (hk : Kok k) (W : World) (B T : Nat) (mb : Option Nat) (M : List FW) (h : FuT W B T mb M) (hn : M.length ≤ 1000)
 (hcl : ∀ f w', getG M k = some f → Below W.heap.size W w' → Calls Try.prog 42 #[.agg (fcs f), .pointer (some ⟨cb, 0, none⟩)] w' fun e w'' => e = .returned (.tuple #[.agg (fcs (F f)), .int .i64 (z f)]) ∧ Below w'.heap.size w' w'') :
 Calls Try.prog 38 #[.pointer (some ⟨B, 0, none⟩), .agg #[.int .u8 k.1, .int .u8 k.2.1, .int .u8 k.2.2], .func (.func 42) #[] #[.pointer (some ⟨cb, 0, none⟩)]] W fun e w' => e = .returned (.int .i64 (chE M k z)) ∧ Acted Fu W w' B (chL M k z F) (FuQ B T mb) := by
 have HGT := Lib.hid fun w' (hb : Below W.heap.size W w') => fuget_any k hk w' B T mb M (h.later hb)
 have HP := Lib.hid fun v w' (hb : Below W.heap.size W w') => ftput_any _ k hk v w' T mb M (h.later hb).t hn
 have HF := Lib.hid h
 have HCL := Lib.hid hcl
 have hb0 : Below W.heap.size W (W.alloc (.cells #[.int .u8 k.1, .int .u8 k.2.1, .int .u8 k.2.2] 32)) := (Below.refl _ _).alloc (Nat.le_refl _) _
 have HB0 := Lib.hid hb0
 have HX0 := Lib.hid (alloc_block W (.cells #[.int .u8 k.1, .int .u8 k.2.1, .int .u8 k.2.2] 32))
 have hcn := ch_none (M := M) (k := k) z F
 have hcs := fun f => ch_some (M := M) (k := k) z F (f := f)
 obtain ⟨X, hX⟩ : ∃ X, W.heap.size = X := ⟨_, rfl⟩
 have HHX := Lib.hid hX
 rw [hX] at HX0
 clear hb0 h hcl hk hn
 generalize chE M k z = rz at *
 generalize chL M k z F = rl at *
 generalize hg : getG M k = g at *
 clear hg
 go_enter Try.func38, Try.ntmps38
 go_upto_region 1 with (fail)
 clear hX
 generalize W.alloc (.cells #[.int .u8 k.1, .int .u8 k.2.1, .int .u8 k.2.2] 32) = V0 at *
 have x0 := block_cell (j := 0) HX0.out rfl
 have x1 := block_cell (j := 1) HX0.out rfl
 have x2 := block_cell (j := 2) HX0.out rfl
 have HCN := Lib.hid hcn
 have HCS := Lib.hid hcs
 clear hcn hcs
 go_wp2_with fail
 clear x0 x1 x2
 refine (HGT.out _ HB0.out).mono ?_
 rintro e1 w1 ⟨rfl, hb1⟩
 cases g with
 | none =>
  obtain ⟨e1, e2⟩ := HCN.out rfl
  subst e1 e2
  have HB1 := Lib.hid (HB0.out.trans (hb1.mono HB0.out.size))
  clear hb1 HCN HCS HCL
  simp only [Option.getD_none, Option.isSome_none]
  have HBA := Lib.hid (HB1.out.alloc HB1.out.size (.cells #[.int .i64 0, .int .i64 0, .int .i64 0, .int .i64 0, .int .i64 0, .int .i64 0] 42))
  go_wp2_with fail
  go_ret
  exact ⟨rfl, HF.out.stays HBA.out⟩
 | some f =>
  simp only [Option.getD_some, Option.isSome_some]
  obtain ⟨e1, e2⟩ := HCS.out f rfl
  have HC := Lib.hid fun w' hb => HCL.out f w' rfl hb
  have HE := Lib.hid (And.intro e1 e2)
  clear e1 e2 HCN HCS HCL
  generalize F f = a at *
  generalize z f = y at *
  obtain ⟨e1, e2⟩ := HE.out
  subst e1
  have HE2 := Lib.hid e2
  clear e2 HE
  obtain ⟨v1, v2, v3, v4, v5, v6⟩ := f
  obtain ⟨a1, a2, a3, a4, a5, a6⟩ := a
  have hbn : Below w1.heap.size w1 (w1.alloc (.cells #[.int .i64 v1, .int .i64 v2, .int .i64 v3, .int .i64 v4, .int .i64 v5, .int .i64 v6] 42)) := (Below.refl _ _).alloc (Nat.le_refl _) _
  have HY1 := Lib.hid (alloc_block w1 (.cells #[.int .i64 v1, .int .i64 v2, .int .i64 v3, .int .i64 v4, .int .i64 v5, .int .i64 v6] 42))
  have HX1 := Lib.hid (block_later (block_later HX0.out hb1) hbn)
  have HB1 := Lib.hid (HB0.out.trans ((hb1.trans (hbn.mono hb1.size)).mono HB0.out.size))
  clear hb1 hbn HX0 HB0 HGT
  go_upto_region 4 with (fail)
  generalize w1.alloc (.cells #[.int .i64 v1, .int .i64 v2, .int .i64 v3, .int .i64 v4, .int .i64 v5, .int .i64 v6] 42) = W1 at *
  generalize w1.heap.size = G at *
  obtain ⟨y0, y1, y2, y3, y4, y5⟩ := fcells HY1.out
  go_wp2_with fail
  clear y0 y1 y2 y3 y4 y5
  refine (HC.out _ HB1.out).mono ?_
  rintro e2 w2 ⟨rfl, hb2⟩
  have hbn : Below w2.heap.size w2 (w2.alloc (.cells #[.int .i64 a1, .int .i64 a2, .int .i64 a3, .int .i64 a4, .int .i64 a5, .int .i64 a6] 42)) := (Below.refl _ _).alloc (Nat.le_refl _) _
  have HY2 := Lib.hid (alloc_block w2 (.cells #[.int .i64 a1, .int .i64 a2, .int .i64 a3, .int .i64 a4, .int .i64 a5, .int .i64 a6] 42))
  have HX2 := Lib.hid (block_later (block_later HX1.out hb2) hbn)
  have HB2 := Lib.hid (HB1.out.trans ((hb2.trans (hbn.mono hb2.size)).mono HB1.out.size))
  clear hb2 hbn HX1 HY1 HB1 HC
  go_upto_region 5 with (fail)
  generalize w2.alloc (.cells #[.int .i64 a1, .int .i64 a2, .int .i64 a3, .int .i64 a4, .int .i64 a5, .int .i64 a6] 42) = W2 at *
  generalize w2.heap.size = G2 at *
  by_cases hy : rz = 0
  · rw [if_pos hy] at HE2
    subst hy
    have hrl := HE2.out
    subst hrl
    have HFW := Lib.hid (HF.out.later HB2.out)
    have c0 := block_cell (j := 0) HFW.out.b rfl
    have x0 := block_cell (j := 0) HX2.out rfl
    have x1 := block_cell (j := 1) HX2.out rfl
    have x2 := block_cell (j := 2) HX2.out rfl
    obtain ⟨y0, y1, y2, y3, y4, y5⟩ := fcells HY2.out
    have HBD0 := Lib.hid (below_drewN HB2.out 1)
    have HBD : Hid (Below W.heap.size W W2.drew) := Lib.hid HBD0.out
    clear HBD0 HFW HX2 HY2 HB2 HE2
    go_wp2_with fail
    go_still_tail 6, (by kernel_rfl)
    repeat still_step
    change wpList _ _ _ _ _ W2.drew
    go_wp2_with fail
    refine (HP.out ⟨a1, a2, a3, a4, a5, a6⟩ _ HBD.out).mono ?_
    rintro e3 w3 ⟨rfl, hp⟩
    have HA := Lib.hid (HF.out.put HBD.out hp)
    clear hp c0 x0 x1 x2 y0 y1 y2 y3 y4 y5
    go_wp2_with fail
    go_ret
    exact ⟨rfl, HA.out⟩
  · rw [if_neg hy] at HE2
    have hrl := HE2.out
    subst hrl
    have hyb : (rz == 0) = false := by simpa using hy
    have HYB := Lib.hid hy
    clear hy
    go_wp2_with fail
    go_ret
    exact ⟨rfl, HF.out.stays HB2.out⟩
set_option maxHeartbeats 2000000 in
theorem change_undo (F : Fv → Fv) (z : Fv → Int) (cb : Nat) (k : K) (hk : Kok k) (W : World) (B T : Nat) (mb : Option Nat) (M : List FW) (h : FuT W B T mb M) (hn : M.length ≤ 1000)
 (hcl : ∀ f w', getG M k = some f → Below W.heap.size W w' → Calls Try.prog 44 #[.agg (fcs f), .pointer (some ⟨cb, 0, none⟩)] w' fun e w'' => e = .returned (.tuple #[.agg (fcs (F f)), .int .i64 (z f)]) ∧ Below w'.heap.size w' w'') :
 Calls Try.prog 38 #[.pointer (some ⟨B, 0, none⟩), .agg #[.int .u8 k.1, .int .u8 k.2.1, .int .u8 k.2.2], .func (.func 44) #[] #[.pointer (some ⟨cb, 0, none⟩)]] W fun e w' => e = .returned (.int .i64 (chE M k z)) ∧ Acted Fu W w' B (chL M k z F) (FuQ B T mb) := by
 have HGT := Lib.hid fun w' (hb : Below W.heap.size W w') => fuget_any k hk w' B T mb M (h.later hb)
 have HP := Lib.hid fun v w' (hb : Below W.heap.size W w') => ftput_any _ k hk v w' T mb M (h.later hb).t hn
 have HF := Lib.hid h
 have HCL := Lib.hid hcl
 have hb0 : Below W.heap.size W (W.alloc (.cells #[.int .u8 k.1, .int .u8 k.2.1, .int .u8 k.2.2] 32)) := (Below.refl _ _).alloc (Nat.le_refl _) _
 have HB0 := Lib.hid hb0
 have HX0 := Lib.hid (alloc_block W (.cells #[.int .u8 k.1, .int .u8 k.2.1, .int .u8 k.2.2] 32))
 have hcn := ch_none (M := M) (k := k) z F
 have hcs := fun f => ch_some (M := M) (k := k) z F (f := f)
 obtain ⟨X, hX⟩ : ∃ X, W.heap.size = X := ⟨_, rfl⟩
 have HHX := Lib.hid hX
 rw [hX] at HX0
 clear hb0 h hcl hk hn
 generalize chE M k z = rz at *
 generalize chL M k z F = rl at *
 generalize hg : getG M k = g at *
 clear hg
 go_enter Try.func38, Try.ntmps38
 go_upto_region 1 with (fail)
 clear hX
 generalize W.alloc (.cells #[.int .u8 k.1, .int .u8 k.2.1, .int .u8 k.2.2] 32) = V0 at *
 have x0 := block_cell (j := 0) HX0.out rfl
 have x1 := block_cell (j := 1) HX0.out rfl
 have x2 := block_cell (j := 2) HX0.out rfl
 have HCN := Lib.hid hcn
 have HCS := Lib.hid hcs
 clear hcn hcs
 go_wp2_with fail
 clear x0 x1 x2
 refine (HGT.out _ HB0.out).mono ?_
 rintro e1 w1 ⟨rfl, hb1⟩
 cases g with
 | none =>
  obtain ⟨e1, e2⟩ := HCN.out rfl
  subst e1 e2
  have HB1 := Lib.hid (HB0.out.trans (hb1.mono HB0.out.size))
  clear hb1 HCN HCS HCL
  simp only [Option.getD_none, Option.isSome_none]
  have HBA := Lib.hid (HB1.out.alloc HB1.out.size (.cells #[.int .i64 0, .int .i64 0, .int .i64 0, .int .i64 0, .int .i64 0, .int .i64 0] 42))
  go_wp2_with fail
  go_ret
  exact ⟨rfl, HF.out.stays HBA.out⟩
 | some f =>
  simp only [Option.getD_some, Option.isSome_some]
  obtain ⟨e1, e2⟩ := HCS.out f rfl
  have HC := Lib.hid fun w' hb => HCL.out f w' rfl hb
  have HE := Lib.hid (And.intro e1 e2)
  clear e1 e2 HCN HCS HCL
  generalize F f = a at *
  generalize z f = y at *
  obtain ⟨e1, e2⟩ := HE.out
  subst e1
  have HE2 := Lib.hid e2
  clear e2 HE
  obtain ⟨v1, v2, v3, v4, v5, v6⟩ := f
  obtain ⟨a1, a2, a3, a4, a5, a6⟩ := a
  have hbn : Below w1.heap.size w1 (w1.alloc (.cells #[.int .i64 v1, .int .i64 v2, .int .i64 v3, .int .i64 v4, .int .i64 v5, .int .i64 v6] 42)) := (Below.refl _ _).alloc (Nat.le_refl _) _
  have HY1 := Lib.hid (alloc_block w1 (.cells #[.int .i64 v1, .int .i64 v2, .int .i64 v3, .int .i64 v4, .int .i64 v5, .int .i64 v6] 42))
  have HX1 := Lib.hid (block_later (block_later HX0.out hb1) hbn)
  have HB1 := Lib.hid (HB0.out.trans ((hb1.trans (hbn.mono hb1.size)).mono HB0.out.size))
  clear hb1 hbn HX0 HB0 HGT
  go_upto_region 4 with (fail)
  generalize w1.alloc (.cells #[.int .i64 v1, .int .i64 v2, .int .i64 v3, .int .i64 v4, .int .i64 v5, .int .i64 v6] 42) = W1 at *
  generalize w1.heap.size = G at *
  obtain ⟨y0, y1, y2, y3, y4, y5⟩ := fcells HY1.out
  go_wp2_with fail
  clear y0 y1 y2 y3 y4 y5
  refine (HC.out _ HB1.out).mono ?_
  rintro e2 w2 ⟨rfl, hb2⟩
  have hbn : Below w2.heap.size w2 (w2.alloc (.cells #[.int .i64 a1, .int .i64 a2, .int .i64 a3, .int .i64 a4, .int .i64 a5, .int .i64 a6] 42)) := (Below.refl _ _).alloc (Nat.le_refl _) _
  have HY2 := Lib.hid (alloc_block w2 (.cells #[.int .i64 a1, .int .i64 a2, .int .i64 a3, .int .i64 a4, .int .i64 a5, .int .i64 a6] 42))
  have HX2 := Lib.hid (block_later (block_later HX1.out hb2) hbn)
  have HB2 := Lib.hid (HB1.out.trans ((hb2.trans (hbn.mono hb2.size)).mono HB1.out.size))
  clear hb2 hbn HX1 HY1 HB1 HC
  go_upto_region 5 with (fail)
  generalize w2.alloc (.cells #[.int .i64 a1, .int .i64 a2, .int .i64 a3, .int .i64 a4, .int .i64 a5, .int .i64 a6] 42) = W2 at *
  generalize w2.heap.size = G2 at *
  by_cases hy : rz = 0
  · rw [if_pos hy] at HE2
    subst hy
    have hrl := HE2.out
    subst hrl
    have HFW := Lib.hid (HF.out.later HB2.out)
    have c0 := block_cell (j := 0) HFW.out.b rfl
    have x0 := block_cell (j := 0) HX2.out rfl
    have x1 := block_cell (j := 1) HX2.out rfl
    have x2 := block_cell (j := 2) HX2.out rfl
    obtain ⟨y0, y1, y2, y3, y4, y5⟩ := fcells HY2.out
    have HBD0 := Lib.hid (below_drewN HB2.out 1)
    have HBD : Hid (Below W.heap.size W W2.drew) := Lib.hid HBD0.out
    clear HBD0 HFW HX2 HY2 HB2 HE2
    go_wp2_with fail
    go_still_tail 6, (by kernel_rfl)
    repeat still_step
    change wpList _ _ _ _ _ W2.drew
    go_wp2_with fail
    refine (HP.out ⟨a1, a2, a3, a4, a5, a6⟩ _ HBD.out).mono ?_
    rintro e3 w3 ⟨rfl, hp⟩
    have HA := Lib.hid (HF.out.put HBD.out hp)
    clear hp c0 x0 x1 x2 y0 y1 y2 y3 y4 y5
    go_wp2_with fail
    go_ret
    exact ⟨rfl, HA.out⟩
  · rw [if_neg hy] at HE2
    have hrl := HE2.out
    subst hrl
    have hyb : (rz == 0) = false := by simpa using hy
    have HYB := Lib.hid hy
    clear hy
    go_wp2_with fail
    go_ret
    exact ⟨rfl, HF.out.stays HB2.out⟩
set_option maxHeartbeats 2000000 in
theorem change_settle (F : Fv → Fv) (z : Fv → Int) (cb : Nat) (k : K) (hk : Kok k) (W : World) (B T : Nat) (mb : Option Nat) (M : List FW) (h : FuT W B T mb M) (hn : M.length ≤ 1000)
 (hcl : ∀ f w', getG M k = some f → Below W.heap.size W w' → Calls Try.prog 52 #[.agg (fcs f), .pointer (some ⟨cb, 0, none⟩)] w' fun e w'' => e = .returned (.tuple #[.agg (fcs (F f)), .int .i64 (z f)]) ∧ Below w'.heap.size w' w'') :
 Calls Try.prog 38 #[.pointer (some ⟨B, 0, none⟩), .agg #[.int .u8 k.1, .int .u8 k.2.1, .int .u8 k.2.2], .func (.func 52) #[] #[.pointer (some ⟨cb, 0, none⟩)]] W fun e w' => e = .returned (.int .i64 (chE M k z)) ∧ Acted Fu W w' B (chL M k z F) (FuQ B T mb) := by
 have HGT := Lib.hid fun w' (hb : Below W.heap.size W w') => fuget_any k hk w' B T mb M (h.later hb)
 have HP := Lib.hid fun v w' (hb : Below W.heap.size W w') => ftput_any _ k hk v w' T mb M (h.later hb).t hn
 have HF := Lib.hid h
 have HCL := Lib.hid hcl
 have hb0 : Below W.heap.size W (W.alloc (.cells #[.int .u8 k.1, .int .u8 k.2.1, .int .u8 k.2.2] 32)) := (Below.refl _ _).alloc (Nat.le_refl _) _
 have HB0 := Lib.hid hb0
 have HX0 := Lib.hid (alloc_block W (.cells #[.int .u8 k.1, .int .u8 k.2.1, .int .u8 k.2.2] 32))
 have hcn := ch_none (M := M) (k := k) z F
 have hcs := fun f => ch_some (M := M) (k := k) z F (f := f)
 obtain ⟨X, hX⟩ : ∃ X, W.heap.size = X := ⟨_, rfl⟩
 have HHX := Lib.hid hX
 rw [hX] at HX0
 clear hb0 h hcl hk hn
 generalize chE M k z = rz at *
 generalize chL M k z F = rl at *
 generalize hg : getG M k = g at *
 clear hg
 go_enter Try.func38, Try.ntmps38
 go_upto_region 1 with (fail)
 clear hX
 generalize W.alloc (.cells #[.int .u8 k.1, .int .u8 k.2.1, .int .u8 k.2.2] 32) = V0 at *
 have x0 := block_cell (j := 0) HX0.out rfl
 have x1 := block_cell (j := 1) HX0.out rfl
 have x2 := block_cell (j := 2) HX0.out rfl
 have HCN := Lib.hid hcn
 have HCS := Lib.hid hcs
 clear hcn hcs
 go_wp2_with fail
 clear x0 x1 x2
 refine (HGT.out _ HB0.out).mono ?_
 rintro e1 w1 ⟨rfl, hb1⟩
 cases g with
 | none =>
  obtain ⟨e1, e2⟩ := HCN.out rfl
  subst e1 e2
  have HB1 := Lib.hid (HB0.out.trans (hb1.mono HB0.out.size))
  clear hb1 HCN HCS HCL
  simp only [Option.getD_none, Option.isSome_none]
  have HBA := Lib.hid (HB1.out.alloc HB1.out.size (.cells #[.int .i64 0, .int .i64 0, .int .i64 0, .int .i64 0, .int .i64 0, .int .i64 0] 42))
  go_wp2_with fail
  go_ret
  exact ⟨rfl, HF.out.stays HBA.out⟩
 | some f =>
  simp only [Option.getD_some, Option.isSome_some]
  obtain ⟨e1, e2⟩ := HCS.out f rfl
  have HC := Lib.hid fun w' hb => HCL.out f w' rfl hb
  have HE := Lib.hid (And.intro e1 e2)
  clear e1 e2 HCN HCS HCL
  generalize F f = a at *
  generalize z f = y at *
  obtain ⟨e1, e2⟩ := HE.out
  subst e1
  have HE2 := Lib.hid e2
  clear e2 HE
  obtain ⟨v1, v2, v3, v4, v5, v6⟩ := f
  obtain ⟨a1, a2, a3, a4, a5, a6⟩ := a
  have hbn : Below w1.heap.size w1 (w1.alloc (.cells #[.int .i64 v1, .int .i64 v2, .int .i64 v3, .int .i64 v4, .int .i64 v5, .int .i64 v6] 42)) := (Below.refl _ _).alloc (Nat.le_refl _) _
  have HY1 := Lib.hid (alloc_block w1 (.cells #[.int .i64 v1, .int .i64 v2, .int .i64 v3, .int .i64 v4, .int .i64 v5, .int .i64 v6] 42))
  have HX1 := Lib.hid (block_later (block_later HX0.out hb1) hbn)
  have HB1 := Lib.hid (HB0.out.trans ((hb1.trans (hbn.mono hb1.size)).mono HB0.out.size))
  clear hb1 hbn HX0 HB0 HGT
  go_upto_region 4 with (fail)
  generalize w1.alloc (.cells #[.int .i64 v1, .int .i64 v2, .int .i64 v3, .int .i64 v4, .int .i64 v5, .int .i64 v6] 42) = W1 at *
  generalize w1.heap.size = G at *
  obtain ⟨y0, y1, y2, y3, y4, y5⟩ := fcells HY1.out
  go_wp2_with fail
  clear y0 y1 y2 y3 y4 y5
  refine (HC.out _ HB1.out).mono ?_
  rintro e2 w2 ⟨rfl, hb2⟩
  have hbn : Below w2.heap.size w2 (w2.alloc (.cells #[.int .i64 a1, .int .i64 a2, .int .i64 a3, .int .i64 a4, .int .i64 a5, .int .i64 a6] 42)) := (Below.refl _ _).alloc (Nat.le_refl _) _
  have HY2 := Lib.hid (alloc_block w2 (.cells #[.int .i64 a1, .int .i64 a2, .int .i64 a3, .int .i64 a4, .int .i64 a5, .int .i64 a6] 42))
  have HX2 := Lib.hid (block_later (block_later HX1.out hb2) hbn)
  have HB2 := Lib.hid (HB1.out.trans ((hb2.trans (hbn.mono hb2.size)).mono HB1.out.size))
  clear hb2 hbn HX1 HY1 HB1 HC
  go_upto_region 5 with (fail)
  generalize w2.alloc (.cells #[.int .i64 a1, .int .i64 a2, .int .i64 a3, .int .i64 a4, .int .i64 a5, .int .i64 a6] 42) = W2 at *
  generalize w2.heap.size = G2 at *
  by_cases hy : rz = 0
  · rw [if_pos hy] at HE2
    subst hy
    have hrl := HE2.out
    subst hrl
    have HFW := Lib.hid (HF.out.later HB2.out)
    have c0 := block_cell (j := 0) HFW.out.b rfl
    have x0 := block_cell (j := 0) HX2.out rfl
    have x1 := block_cell (j := 1) HX2.out rfl
    have x2 := block_cell (j := 2) HX2.out rfl
    obtain ⟨y0, y1, y2, y3, y4, y5⟩ := fcells HY2.out
    have HBD0 := Lib.hid (below_drewN HB2.out 1)
    have HBD : Hid (Below W.heap.size W W2.drew) := Lib.hid HBD0.out
    clear HBD0 HFW HX2 HY2 HB2 HE2
    go_wp2_with fail
    go_still_tail 6, (by kernel_rfl)
    repeat still_step
    change wpList _ _ _ _ _ W2.drew
    go_wp2_with fail
    refine (HP.out ⟨a1, a2, a3, a4, a5, a6⟩ _ HBD.out).mono ?_
    rintro e3 w3 ⟨rfl, hp⟩
    have HA := Lib.hid (HF.out.put HBD.out hp)
    clear hp c0 x0 x1 x2 y0 y1 y2 y3 y4 y5
    go_wp2_with fail
    go_ret
    exact ⟨rfl, HA.out⟩
  · rw [if_neg hy] at HE2
    have hrl := HE2.out
    subst hrl
    have hyb : (rz == 0) = false := by simpa using hy
    have HYB := Lib.hid hy
    clear hy
    go_wp2_with fail
    go_ret
    exact ⟨rfl, HF.out.stays HB2.out⟩
set_option maxHeartbeats 2000000 in
theorem change_back (F : Fv → Fv) (z : Fv → Int) (cb : Nat) (k : K) (hk : Kok k) (W : World) (B T : Nat) (mb : Option Nat) (M : List FW) (h : FuT W B T mb M) (hn : M.length ≤ 1000)
 (hcl : ∀ f w', getG M k = some f → Below W.heap.size W w' → Calls Try.prog 54 #[.agg (fcs f), .pointer (some ⟨cb, 0, none⟩)] w' fun e w'' => e = .returned (.tuple #[.agg (fcs (F f)), .int .i64 (z f)]) ∧ Below w'.heap.size w' w'') :
 Calls Try.prog 38 #[.pointer (some ⟨B, 0, none⟩), .agg #[.int .u8 k.1, .int .u8 k.2.1, .int .u8 k.2.2], .func (.func 54) #[] #[.pointer (some ⟨cb, 0, none⟩)]] W fun e w' => e = .returned (.int .i64 (chE M k z)) ∧ Acted Fu W w' B (chL M k z F) (FuQ B T mb) := by
 have HGT := Lib.hid fun w' (hb : Below W.heap.size W w') => fuget_any k hk w' B T mb M (h.later hb)
 have HP := Lib.hid fun v w' (hb : Below W.heap.size W w') => ftput_any _ k hk v w' T mb M (h.later hb).t hn
 have HF := Lib.hid h
 have HCL := Lib.hid hcl
 have hb0 : Below W.heap.size W (W.alloc (.cells #[.int .u8 k.1, .int .u8 k.2.1, .int .u8 k.2.2] 32)) := (Below.refl _ _).alloc (Nat.le_refl _) _
 have HB0 := Lib.hid hb0
 have HX0 := Lib.hid (alloc_block W (.cells #[.int .u8 k.1, .int .u8 k.2.1, .int .u8 k.2.2] 32))
 have hcn := ch_none (M := M) (k := k) z F
 have hcs := fun f => ch_some (M := M) (k := k) z F (f := f)
 obtain ⟨X, hX⟩ : ∃ X, W.heap.size = X := ⟨_, rfl⟩
 have HHX := Lib.hid hX
 rw [hX] at HX0
 clear hb0 h hcl hk hn
 generalize chE M k z = rz at *
 generalize chL M k z F = rl at *
 generalize hg : getG M k = g at *
 clear hg
 go_enter Try.func38, Try.ntmps38
 go_upto_region 1 with (fail)
 clear hX
 generalize W.alloc (.cells #[.int .u8 k.1, .int .u8 k.2.1, .int .u8 k.2.2] 32) = V0 at *
 have x0 := block_cell (j := 0) HX0.out rfl
 have x1 := block_cell (j := 1) HX0.out rfl
 have x2 := block_cell (j := 2) HX0.out rfl
 have HCN := Lib.hid hcn
 have HCS := Lib.hid hcs
 clear hcn hcs
 go_wp2_with fail
 clear x0 x1 x2
 refine (HGT.out _ HB0.out).mono ?_
 rintro e1 w1 ⟨rfl, hb1⟩
 cases g with
 | none =>
  obtain ⟨e1, e2⟩ := HCN.out rfl
  subst e1 e2
  have HB1 := Lib.hid (HB0.out.trans (hb1.mono HB0.out.size))
  clear hb1 HCN HCS HCL
  simp only [Option.getD_none, Option.isSome_none]
  have HBA := Lib.hid (HB1.out.alloc HB1.out.size (.cells #[.int .i64 0, .int .i64 0, .int .i64 0, .int .i64 0, .int .i64 0, .int .i64 0] 42))
  go_wp2_with fail
  go_ret
  exact ⟨rfl, HF.out.stays HBA.out⟩
 | some f =>
  simp only [Option.getD_some, Option.isSome_some]
  obtain ⟨e1, e2⟩ := HCS.out f rfl
  have HC := Lib.hid fun w' hb => HCL.out f w' rfl hb
  have HE := Lib.hid (And.intro e1 e2)
  clear e1 e2 HCN HCS HCL
  generalize F f = a at *
  generalize z f = y at *
  obtain ⟨e1, e2⟩ := HE.out
  subst e1
  have HE2 := Lib.hid e2
  clear e2 HE
  obtain ⟨v1, v2, v3, v4, v5, v6⟩ := f
  obtain ⟨a1, a2, a3, a4, a5, a6⟩ := a
  have hbn : Below w1.heap.size w1 (w1.alloc (.cells #[.int .i64 v1, .int .i64 v2, .int .i64 v3, .int .i64 v4, .int .i64 v5, .int .i64 v6] 42)) := (Below.refl _ _).alloc (Nat.le_refl _) _
  have HY1 := Lib.hid (alloc_block w1 (.cells #[.int .i64 v1, .int .i64 v2, .int .i64 v3, .int .i64 v4, .int .i64 v5, .int .i64 v6] 42))
  have HX1 := Lib.hid (block_later (block_later HX0.out hb1) hbn)
  have HB1 := Lib.hid (HB0.out.trans ((hb1.trans (hbn.mono hb1.size)).mono HB0.out.size))
  clear hb1 hbn HX0 HB0 HGT
  go_upto_region 4 with (fail)
  generalize w1.alloc (.cells #[.int .i64 v1, .int .i64 v2, .int .i64 v3, .int .i64 v4, .int .i64 v5, .int .i64 v6] 42) = W1 at *
  generalize w1.heap.size = G at *
  obtain ⟨y0, y1, y2, y3, y4, y5⟩ := fcells HY1.out
  go_wp2_with fail
  clear y0 y1 y2 y3 y4 y5
  refine (HC.out _ HB1.out).mono ?_
  rintro e2 w2 ⟨rfl, hb2⟩
  have hbn : Below w2.heap.size w2 (w2.alloc (.cells #[.int .i64 a1, .int .i64 a2, .int .i64 a3, .int .i64 a4, .int .i64 a5, .int .i64 a6] 42)) := (Below.refl _ _).alloc (Nat.le_refl _) _
  have HY2 := Lib.hid (alloc_block w2 (.cells #[.int .i64 a1, .int .i64 a2, .int .i64 a3, .int .i64 a4, .int .i64 a5, .int .i64 a6] 42))
  have HX2 := Lib.hid (block_later (block_later HX1.out hb2) hbn)
  have HB2 := Lib.hid (HB1.out.trans ((hb2.trans (hbn.mono hb2.size)).mono HB1.out.size))
  clear hb2 hbn HX1 HY1 HB1 HC
  go_upto_region 5 with (fail)
  generalize w2.alloc (.cells #[.int .i64 a1, .int .i64 a2, .int .i64 a3, .int .i64 a4, .int .i64 a5, .int .i64 a6] 42) = W2 at *
  generalize w2.heap.size = G2 at *
  by_cases hy : rz = 0
  · rw [if_pos hy] at HE2
    subst hy
    have hrl := HE2.out
    subst hrl
    have HFW := Lib.hid (HF.out.later HB2.out)
    have c0 := block_cell (j := 0) HFW.out.b rfl
    have x0 := block_cell (j := 0) HX2.out rfl
    have x1 := block_cell (j := 1) HX2.out rfl
    have x2 := block_cell (j := 2) HX2.out rfl
    obtain ⟨y0, y1, y2, y3, y4, y5⟩ := fcells HY2.out
    have HBD0 := Lib.hid (below_drewN HB2.out 1)
    have HBD : Hid (Below W.heap.size W W2.drew) := Lib.hid HBD0.out
    clear HBD0 HFW HX2 HY2 HB2 HE2
    go_wp2_with fail
    go_still_tail 6, (by kernel_rfl)
    repeat still_step
    change wpList _ _ _ _ _ W2.drew
    go_wp2_with fail
    refine (HP.out ⟨a1, a2, a3, a4, a5, a6⟩ _ HBD.out).mono ?_
    rintro e3 w3 ⟨rfl, hp⟩
    have HA := Lib.hid (HF.out.put HBD.out hp)
    clear hp c0 x0 x1 x2 y0 y1 y2 y3 y4 y5
    go_wp2_with fail
    go_ret
    exact ⟨rfl, HA.out⟩
  · rw [if_neg hy] at HE2
    have hrl := HE2.out
    subst hrl
    have hyb : (rz == 0) = false := by simpa using hy
    have HYB := Lib.hid hy
    clear hy
    go_wp2_with fail
    go_ret
    exact ⟨rfl, HF.out.stays HB2.out⟩
set_option maxHeartbeats 2000000 in
theorem change_forth (F : Fv → Fv) (z : Fv → Int) (cb : Nat) (k : K) (hk : Kok k) (W : World) (B T : Nat) (mb : Option Nat) (M : List FW) (h : FuT W B T mb M) (hn : M.length ≤ 1000)
 (hcl : ∀ f w', getG M k = some f → Below W.heap.size W w' → Calls Try.prog 56 #[.agg (fcs f), .pointer (some ⟨cb, 0, none⟩)] w' fun e w'' => e = .returned (.tuple #[.agg (fcs (F f)), .int .i64 (z f)]) ∧ Below w'.heap.size w' w'') :
 Calls Try.prog 38 #[.pointer (some ⟨B, 0, none⟩), .agg #[.int .u8 k.1, .int .u8 k.2.1, .int .u8 k.2.2], .func (.func 56) #[] #[.pointer (some ⟨cb, 0, none⟩)]] W fun e w' => e = .returned (.int .i64 (chE M k z)) ∧ Acted Fu W w' B (chL M k z F) (FuQ B T mb) := by
 have HGT := Lib.hid fun w' (hb : Below W.heap.size W w') => fuget_any k hk w' B T mb M (h.later hb)
 have HP := Lib.hid fun v w' (hb : Below W.heap.size W w') => ftput_any _ k hk v w' T mb M (h.later hb).t hn
 have HF := Lib.hid h
 have HCL := Lib.hid hcl
 have hb0 : Below W.heap.size W (W.alloc (.cells #[.int .u8 k.1, .int .u8 k.2.1, .int .u8 k.2.2] 32)) := (Below.refl _ _).alloc (Nat.le_refl _) _
 have HB0 := Lib.hid hb0
 have HX0 := Lib.hid (alloc_block W (.cells #[.int .u8 k.1, .int .u8 k.2.1, .int .u8 k.2.2] 32))
 have hcn := ch_none (M := M) (k := k) z F
 have hcs := fun f => ch_some (M := M) (k := k) z F (f := f)
 obtain ⟨X, hX⟩ : ∃ X, W.heap.size = X := ⟨_, rfl⟩
 have HHX := Lib.hid hX
 rw [hX] at HX0
 clear hb0 h hcl hk hn
 generalize chE M k z = rz at *
 generalize chL M k z F = rl at *
 generalize hg : getG M k = g at *
 clear hg
 go_enter Try.func38, Try.ntmps38
 go_upto_region 1 with (fail)
 clear hX
 generalize W.alloc (.cells #[.int .u8 k.1, .int .u8 k.2.1, .int .u8 k.2.2] 32) = V0 at *
 have x0 := block_cell (j := 0) HX0.out rfl
 have x1 := block_cell (j := 1) HX0.out rfl
 have x2 := block_cell (j := 2) HX0.out rfl
 have HCN := Lib.hid hcn
 have HCS := Lib.hid hcs
 clear hcn hcs
 go_wp2_with fail
 clear x0 x1 x2
 refine (HGT.out _ HB0.out).mono ?_
 rintro e1 w1 ⟨rfl, hb1⟩
 cases g with
 | none =>
  obtain ⟨e1, e2⟩ := HCN.out rfl
  subst e1 e2
  have HB1 := Lib.hid (HB0.out.trans (hb1.mono HB0.out.size))
  clear hb1 HCN HCS HCL
  simp only [Option.getD_none, Option.isSome_none]
  have HBA := Lib.hid (HB1.out.alloc HB1.out.size (.cells #[.int .i64 0, .int .i64 0, .int .i64 0, .int .i64 0, .int .i64 0, .int .i64 0] 42))
  go_wp2_with fail
  go_ret
  exact ⟨rfl, HF.out.stays HBA.out⟩
 | some f =>
  simp only [Option.getD_some, Option.isSome_some]
  obtain ⟨e1, e2⟩ := HCS.out f rfl
  have HC := Lib.hid fun w' hb => HCL.out f w' rfl hb
  have HE := Lib.hid (And.intro e1 e2)
  clear e1 e2 HCN HCS HCL
  generalize F f = a at *
  generalize z f = y at *
  obtain ⟨e1, e2⟩ := HE.out
  subst e1
  have HE2 := Lib.hid e2
  clear e2 HE
  obtain ⟨v1, v2, v3, v4, v5, v6⟩ := f
  obtain ⟨a1, a2, a3, a4, a5, a6⟩ := a
  have hbn : Below w1.heap.size w1 (w1.alloc (.cells #[.int .i64 v1, .int .i64 v2, .int .i64 v3, .int .i64 v4, .int .i64 v5, .int .i64 v6] 42)) := (Below.refl _ _).alloc (Nat.le_refl _) _
  have HY1 := Lib.hid (alloc_block w1 (.cells #[.int .i64 v1, .int .i64 v2, .int .i64 v3, .int .i64 v4, .int .i64 v5, .int .i64 v6] 42))
  have HX1 := Lib.hid (block_later (block_later HX0.out hb1) hbn)
  have HB1 := Lib.hid (HB0.out.trans ((hb1.trans (hbn.mono hb1.size)).mono HB0.out.size))
  clear hb1 hbn HX0 HB0 HGT
  go_upto_region 4 with (fail)
  generalize w1.alloc (.cells #[.int .i64 v1, .int .i64 v2, .int .i64 v3, .int .i64 v4, .int .i64 v5, .int .i64 v6] 42) = W1 at *
  generalize w1.heap.size = G at *
  obtain ⟨y0, y1, y2, y3, y4, y5⟩ := fcells HY1.out
  go_wp2_with fail
  clear y0 y1 y2 y3 y4 y5
  refine (HC.out _ HB1.out).mono ?_
  rintro e2 w2 ⟨rfl, hb2⟩
  have hbn : Below w2.heap.size w2 (w2.alloc (.cells #[.int .i64 a1, .int .i64 a2, .int .i64 a3, .int .i64 a4, .int .i64 a5, .int .i64 a6] 42)) := (Below.refl _ _).alloc (Nat.le_refl _) _
  have HY2 := Lib.hid (alloc_block w2 (.cells #[.int .i64 a1, .int .i64 a2, .int .i64 a3, .int .i64 a4, .int .i64 a5, .int .i64 a6] 42))
  have HX2 := Lib.hid (block_later (block_later HX1.out hb2) hbn)
  have HB2 := Lib.hid (HB1.out.trans ((hb2.trans (hbn.mono hb2.size)).mono HB1.out.size))
  clear hb2 hbn HX1 HY1 HB1 HC
  go_upto_region 5 with (fail)
  generalize w2.alloc (.cells #[.int .i64 a1, .int .i64 a2, .int .i64 a3, .int .i64 a4, .int .i64 a5, .int .i64 a6] 42) = W2 at *
  generalize w2.heap.size = G2 at *
  by_cases hy : rz = 0
  · rw [if_pos hy] at HE2
    subst hy
    have hrl := HE2.out
    subst hrl
    have HFW := Lib.hid (HF.out.later HB2.out)
    have c0 := block_cell (j := 0) HFW.out.b rfl
    have x0 := block_cell (j := 0) HX2.out rfl
    have x1 := block_cell (j := 1) HX2.out rfl
    have x2 := block_cell (j := 2) HX2.out rfl
    obtain ⟨y0, y1, y2, y3, y4, y5⟩ := fcells HY2.out
    have HBD0 := Lib.hid (below_drewN HB2.out 1)
    have HBD : Hid (Below W.heap.size W W2.drew) := Lib.hid HBD0.out
    clear HBD0 HFW HX2 HY2 HB2 HE2
    go_wp2_with fail
    go_still_tail 6, (by kernel_rfl)
    repeat still_step
    change wpList _ _ _ _ _ W2.drew
    go_wp2_with fail
    refine (HP.out ⟨a1, a2, a3, a4, a5, a6⟩ _ HBD.out).mono ?_
    rintro e3 w3 ⟨rfl, hp⟩
    have HA := Lib.hid (HF.out.put HBD.out hp)
    clear hp c0 x0 x1 x2 y0 y1 y2 y3 y4 y5
    go_wp2_with fail
    go_ret
    exact ⟨rfl, HA.out⟩
  · rw [if_neg hy] at HE2
    have hrl := HE2.out
    subst hrl
    have hyb : (rz == 0) = false := by simpa using hy
    have HYB := Lib.hid hy
    clear hy
    go_wp2_with fail
    go_ret
    exact ⟨rfl, HF.out.stays HB2.out⟩
set_option maxHeartbeats 2000000 in
theorem change_drop (F : Fv → Fv) (z : Fv → Int) (cb : Nat) (k : K) (hk : Kok k) (W : World) (B T : Nat) (mb : Option Nat) (M : List FW) (h : FuT W B T mb M) (hn : M.length ≤ 1000)
 (hcl : ∀ f w', getG M k = some f → Below W.heap.size W w' → Calls Try.prog 58 #[.agg (fcs f), .pointer (some ⟨cb, 0, none⟩)] w' fun e w'' => e = .returned (.tuple #[.agg (fcs (F f)), .int .i64 (z f)]) ∧ Below w'.heap.size w' w'') :
 Calls Try.prog 38 #[.pointer (some ⟨B, 0, none⟩), .agg #[.int .u8 k.1, .int .u8 k.2.1, .int .u8 k.2.2], .func (.func 58) #[] #[.pointer (some ⟨cb, 0, none⟩)]] W fun e w' => e = .returned (.int .i64 (chE M k z)) ∧ Acted Fu W w' B (chL M k z F) (FuQ B T mb) := by
 have HGT := Lib.hid fun w' (hb : Below W.heap.size W w') => fuget_any k hk w' B T mb M (h.later hb)
 have HP := Lib.hid fun v w' (hb : Below W.heap.size W w') => ftput_any _ k hk v w' T mb M (h.later hb).t hn
 have HF := Lib.hid h
 have HCL := Lib.hid hcl
 have hb0 : Below W.heap.size W (W.alloc (.cells #[.int .u8 k.1, .int .u8 k.2.1, .int .u8 k.2.2] 32)) := (Below.refl _ _).alloc (Nat.le_refl _) _
 have HB0 := Lib.hid hb0
 have HX0 := Lib.hid (alloc_block W (.cells #[.int .u8 k.1, .int .u8 k.2.1, .int .u8 k.2.2] 32))
 have hcn := ch_none (M := M) (k := k) z F
 have hcs := fun f => ch_some (M := M) (k := k) z F (f := f)
 obtain ⟨X, hX⟩ : ∃ X, W.heap.size = X := ⟨_, rfl⟩
 have HHX := Lib.hid hX
 rw [hX] at HX0
 clear hb0 h hcl hk hn
 generalize chE M k z = rz at *
 generalize chL M k z F = rl at *
 generalize hg : getG M k = g at *
 clear hg
 go_enter Try.func38, Try.ntmps38
 go_upto_region 1 with (fail)
 clear hX
 generalize W.alloc (.cells #[.int .u8 k.1, .int .u8 k.2.1, .int .u8 k.2.2] 32) = V0 at *
 have x0 := block_cell (j := 0) HX0.out rfl
 have x1 := block_cell (j := 1) HX0.out rfl
 have x2 := block_cell (j := 2) HX0.out rfl
 have HCN := Lib.hid hcn
 have HCS := Lib.hid hcs
 clear hcn hcs
 go_wp2_with fail
 clear x0 x1 x2
 refine (HGT.out _ HB0.out).mono ?_
 rintro e1 w1 ⟨rfl, hb1⟩
 cases g with
 | none =>
  obtain ⟨e1, e2⟩ := HCN.out rfl
  subst e1 e2
  have HB1 := Lib.hid (HB0.out.trans (hb1.mono HB0.out.size))
  clear hb1 HCN HCS HCL
  simp only [Option.getD_none, Option.isSome_none]
  have HBA := Lib.hid (HB1.out.alloc HB1.out.size (.cells #[.int .i64 0, .int .i64 0, .int .i64 0, .int .i64 0, .int .i64 0, .int .i64 0] 42))
  go_wp2_with fail
  go_ret
  exact ⟨rfl, HF.out.stays HBA.out⟩
 | some f =>
  simp only [Option.getD_some, Option.isSome_some]
  obtain ⟨e1, e2⟩ := HCS.out f rfl
  have HC := Lib.hid fun w' hb => HCL.out f w' rfl hb
  have HE := Lib.hid (And.intro e1 e2)
  clear e1 e2 HCN HCS HCL
  generalize F f = a at *
  generalize z f = y at *
  obtain ⟨e1, e2⟩ := HE.out
  subst e1
  have HE2 := Lib.hid e2
  clear e2 HE
  obtain ⟨v1, v2, v3, v4, v5, v6⟩ := f
  obtain ⟨a1, a2, a3, a4, a5, a6⟩ := a
  have hbn : Below w1.heap.size w1 (w1.alloc (.cells #[.int .i64 v1, .int .i64 v2, .int .i64 v3, .int .i64 v4, .int .i64 v5, .int .i64 v6] 42)) := (Below.refl _ _).alloc (Nat.le_refl _) _
  have HY1 := Lib.hid (alloc_block w1 (.cells #[.int .i64 v1, .int .i64 v2, .int .i64 v3, .int .i64 v4, .int .i64 v5, .int .i64 v6] 42))
  have HX1 := Lib.hid (block_later (block_later HX0.out hb1) hbn)
  have HB1 := Lib.hid (HB0.out.trans ((hb1.trans (hbn.mono hb1.size)).mono HB0.out.size))
  clear hb1 hbn HX0 HB0 HGT
  go_upto_region 4 with (fail)
  generalize w1.alloc (.cells #[.int .i64 v1, .int .i64 v2, .int .i64 v3, .int .i64 v4, .int .i64 v5, .int .i64 v6] 42) = W1 at *
  generalize w1.heap.size = G at *
  obtain ⟨y0, y1, y2, y3, y4, y5⟩ := fcells HY1.out
  go_wp2_with fail
  clear y0 y1 y2 y3 y4 y5
  refine (HC.out _ HB1.out).mono ?_
  rintro e2 w2 ⟨rfl, hb2⟩
  have hbn : Below w2.heap.size w2 (w2.alloc (.cells #[.int .i64 a1, .int .i64 a2, .int .i64 a3, .int .i64 a4, .int .i64 a5, .int .i64 a6] 42)) := (Below.refl _ _).alloc (Nat.le_refl _) _
  have HY2 := Lib.hid (alloc_block w2 (.cells #[.int .i64 a1, .int .i64 a2, .int .i64 a3, .int .i64 a4, .int .i64 a5, .int .i64 a6] 42))
  have HX2 := Lib.hid (block_later (block_later HX1.out hb2) hbn)
  have HB2 := Lib.hid (HB1.out.trans ((hb2.trans (hbn.mono hb2.size)).mono HB1.out.size))
  clear hb2 hbn HX1 HY1 HB1 HC
  go_upto_region 5 with (fail)
  generalize w2.alloc (.cells #[.int .i64 a1, .int .i64 a2, .int .i64 a3, .int .i64 a4, .int .i64 a5, .int .i64 a6] 42) = W2 at *
  generalize w2.heap.size = G2 at *
  by_cases hy : rz = 0
  · rw [if_pos hy] at HE2
    subst hy
    have hrl := HE2.out
    subst hrl
    have HFW := Lib.hid (HF.out.later HB2.out)
    have c0 := block_cell (j := 0) HFW.out.b rfl
    have x0 := block_cell (j := 0) HX2.out rfl
    have x1 := block_cell (j := 1) HX2.out rfl
    have x2 := block_cell (j := 2) HX2.out rfl
    obtain ⟨y0, y1, y2, y3, y4, y5⟩ := fcells HY2.out
    have HBD0 := Lib.hid (below_drewN HB2.out 1)
    have HBD : Hid (Below W.heap.size W W2.drew) := Lib.hid HBD0.out
    clear HBD0 HFW HX2 HY2 HB2 HE2
    go_wp2_with fail
    go_still_tail 6, (by kernel_rfl)
    repeat still_step
    change wpList _ _ _ _ _ W2.drew
    go_wp2_with fail
    refine (HP.out ⟨a1, a2, a3, a4, a5, a6⟩ _ HBD.out).mono ?_
    rintro e3 w3 ⟨rfl, hp⟩
    have HA := Lib.hid (HF.out.put HBD.out hp)
    clear hp c0 x0 x1 x2 y0 y1 y2 y3 y4 y5
    go_wp2_with fail
    go_ret
    exact ⟨rfl, HA.out⟩
  · rw [if_neg hy] at HE2
    have hrl := HE2.out
    subst hrl
    have hyb : (rz == 0) = false := by simpa using hy
    have HYB := Lib.hid hy
    clear hy
    go_wp2_with fail
    go_ret
    exact ⟨rfl, HF.out.stays HB2.out⟩
set_option maxHeartbeats 2000000 in
theorem change_set (F : Fv → Fv) (z : Fv → Int) (cb : Nat) (k : K) (hk : Kok k) (W : World) (B T : Nat) (mb : Option Nat) (M : List FW) (h : FuT W B T mb M) (hn : M.length ≤ 1000)
 (hcl : ∀ f w', getG M k = some f → Below W.heap.size W w' → Calls Try.prog 39 #[.agg (fcs f), .pointer (some ⟨cb, 0, none⟩)] w' fun e w'' => e = .returned (.tuple #[.agg (fcs (F f)), .int .i64 (z f)]) ∧ Below w'.heap.size w' w'') :
 Calls Try.prog 38 #[.pointer (some ⟨B, 0, none⟩), .agg #[.int .u8 k.1, .int .u8 k.2.1, .int .u8 k.2.2], .func (.func 39) #[] #[.pointer (some ⟨cb, 0, none⟩)]] W fun e w' => e = .returned (.int .i64 (chE M k z)) ∧ Acted Fu W w' B (chL M k z F) (FuQ B T mb) := by
 have HGT := Lib.hid fun w' (hb : Below W.heap.size W w') => fuget_any k hk w' B T mb M (h.later hb)
 have HP := Lib.hid fun v w' (hb : Below W.heap.size W w') => ftput_any _ k hk v w' T mb M (h.later hb).t hn
 have HF := Lib.hid h
 have HCL := Lib.hid hcl
 have hb0 : Below W.heap.size W (W.alloc (.cells #[.int .u8 k.1, .int .u8 k.2.1, .int .u8 k.2.2] 32)) := (Below.refl _ _).alloc (Nat.le_refl _) _
 have HB0 := Lib.hid hb0
 have HX0 := Lib.hid (alloc_block W (.cells #[.int .u8 k.1, .int .u8 k.2.1, .int .u8 k.2.2] 32))
 have hcn := ch_none (M := M) (k := k) z F
 have hcs := fun f => ch_some (M := M) (k := k) z F (f := f)
 obtain ⟨X, hX⟩ : ∃ X, W.heap.size = X := ⟨_, rfl⟩
 have HHX := Lib.hid hX
 rw [hX] at HX0
 clear hb0 h hcl hk hn
 generalize chE M k z = rz at *
 generalize chL M k z F = rl at *
 generalize hg : getG M k = g at *
 clear hg
 go_enter Try.func38, Try.ntmps38
 go_upto_region 1 with (fail)
 clear hX
 generalize W.alloc (.cells #[.int .u8 k.1, .int .u8 k.2.1, .int .u8 k.2.2] 32) = V0 at *
 have x0 := block_cell (j := 0) HX0.out rfl
 have x1 := block_cell (j := 1) HX0.out rfl
 have x2 := block_cell (j := 2) HX0.out rfl
 have HCN := Lib.hid hcn
 have HCS := Lib.hid hcs
 clear hcn hcs
 go_wp2_with fail
 clear x0 x1 x2
 refine (HGT.out _ HB0.out).mono ?_
 rintro e1 w1 ⟨rfl, hb1⟩
 cases g with
 | none =>
  obtain ⟨e1, e2⟩ := HCN.out rfl
  subst e1 e2
  have HB1 := Lib.hid (HB0.out.trans (hb1.mono HB0.out.size))
  clear hb1 HCN HCS HCL
  simp only [Option.getD_none, Option.isSome_none]
  have HBA := Lib.hid (HB1.out.alloc HB1.out.size (.cells #[.int .i64 0, .int .i64 0, .int .i64 0, .int .i64 0, .int .i64 0, .int .i64 0] 42))
  go_wp2_with fail
  go_ret
  exact ⟨rfl, HF.out.stays HBA.out⟩
 | some f =>
  simp only [Option.getD_some, Option.isSome_some]
  obtain ⟨e1, e2⟩ := HCS.out f rfl
  have HC := Lib.hid fun w' hb => HCL.out f w' rfl hb
  have HE := Lib.hid (And.intro e1 e2)
  clear e1 e2 HCN HCS HCL
  generalize F f = a at *
  generalize z f = y at *
  obtain ⟨e1, e2⟩ := HE.out
  subst e1
  have HE2 := Lib.hid e2
  clear e2 HE
  obtain ⟨v1, v2, v3, v4, v5, v6⟩ := f
  obtain ⟨a1, a2, a3, a4, a5, a6⟩ := a
  have hbn : Below w1.heap.size w1 (w1.alloc (.cells #[.int .i64 v1, .int .i64 v2, .int .i64 v3, .int .i64 v4, .int .i64 v5, .int .i64 v6] 42)) := (Below.refl _ _).alloc (Nat.le_refl _) _
  have HY1 := Lib.hid (alloc_block w1 (.cells #[.int .i64 v1, .int .i64 v2, .int .i64 v3, .int .i64 v4, .int .i64 v5, .int .i64 v6] 42))
  have HX1 := Lib.hid (block_later (block_later HX0.out hb1) hbn)
  have HB1 := Lib.hid (HB0.out.trans ((hb1.trans (hbn.mono hb1.size)).mono HB0.out.size))
  clear hb1 hbn HX0 HB0 HGT
  go_upto_region 4 with (fail)
  generalize w1.alloc (.cells #[.int .i64 v1, .int .i64 v2, .int .i64 v3, .int .i64 v4, .int .i64 v5, .int .i64 v6] 42) = W1 at *
  generalize w1.heap.size = G at *
  obtain ⟨y0, y1, y2, y3, y4, y5⟩ := fcells HY1.out
  go_wp2_with fail
  clear y0 y1 y2 y3 y4 y5
  refine (HC.out _ HB1.out).mono ?_
  rintro e2 w2 ⟨rfl, hb2⟩
  have hbn : Below w2.heap.size w2 (w2.alloc (.cells #[.int .i64 a1, .int .i64 a2, .int .i64 a3, .int .i64 a4, .int .i64 a5, .int .i64 a6] 42)) := (Below.refl _ _).alloc (Nat.le_refl _) _
  have HY2 := Lib.hid (alloc_block w2 (.cells #[.int .i64 a1, .int .i64 a2, .int .i64 a3, .int .i64 a4, .int .i64 a5, .int .i64 a6] 42))
  have HX2 := Lib.hid (block_later (block_later HX1.out hb2) hbn)
  have HB2 := Lib.hid (HB1.out.trans ((hb2.trans (hbn.mono hb2.size)).mono HB1.out.size))
  clear hb2 hbn HX1 HY1 HB1 HC
  go_upto_region 5 with (fail)
  generalize w2.alloc (.cells #[.int .i64 a1, .int .i64 a2, .int .i64 a3, .int .i64 a4, .int .i64 a5, .int .i64 a6] 42) = W2 at *
  generalize w2.heap.size = G2 at *
  by_cases hy : rz = 0
  · rw [if_pos hy] at HE2
    subst hy
    have hrl := HE2.out
    subst hrl
    have HFW := Lib.hid (HF.out.later HB2.out)
    have c0 := block_cell (j := 0) HFW.out.b rfl
    have x0 := block_cell (j := 0) HX2.out rfl
    have x1 := block_cell (j := 1) HX2.out rfl
    have x2 := block_cell (j := 2) HX2.out rfl
    obtain ⟨y0, y1, y2, y3, y4, y5⟩ := fcells HY2.out
    have HBD0 := Lib.hid (below_drewN HB2.out 1)
    have HBD : Hid (Below W.heap.size W W2.drew) := Lib.hid HBD0.out
    clear HBD0 HFW HX2 HY2 HB2 HE2
    go_wp2_with fail
    go_still_tail 6, (by kernel_rfl)
    repeat still_step
    change wpList _ _ _ _ _ W2.drew
    go_wp2_with fail
    refine (HP.out ⟨a1, a2, a3, a4, a5, a6⟩ _ HBD.out).mono ?_
    rintro e3 w3 ⟨rfl, hp⟩
    have HA := Lib.hid (HF.out.put HBD.out hp)
    clear hp c0 x0 x1 x2 y0 y1 y2 y3 y4 y5
    go_wp2_with fail
    go_ret
    exact ⟨rfl, HA.out⟩
  · rw [if_neg hy] at HE2
    have hrl := HE2.out
    subst hrl
    have hyb : (rz == 0) = false := by simpa using hy
    have HYB := Lib.hid hy
    clear hy
    go_wp2_with fail
    go_ret
    exact ⟨rfl, HF.out.stays HB2.out⟩
end Go.Proofs.Ytmdldbchdnkfcaa
