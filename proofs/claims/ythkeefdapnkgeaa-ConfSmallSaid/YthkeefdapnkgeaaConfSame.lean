/- Two configurations held against each other, that differ in nothing but where their fields lie. -/
import Derived.Test.YthkeefdapnkgeaaConfMade
import Derived.Test.YthkeefdapnkgeaaConfArr
import Derived.Test.YthkeefdapnkgeaaConfDecls
import Derived.Still
namespace Go.Proofs.Ythkeefdapnkgeaa
open Go.RowKit Go.ChangeShapes Go.WideShapes
set_option linter.unusedVariables false
set_option linter.unusedSimpArgs false

/-- A whole configuration out of its block, in a region that draws. -/
theorem still_load_cf {ops : Array Oper} {rest : List Oper} {a : Act} {w : World} {Q : Act → Prop} {dst : Option Tmp} {x : Operand} {ty : TypeId} {pos : String} {after : Array Edge} {B : Nat} {C : Cf} (hC : CB w B C) (hx : a.eval x = .pointer (some ⟨B, 0, none⟩))
    (h : wpStill Try.prog ops w Q rest (a.put dst (.agg (cc C)))) : wpStill Try.prog ops w Q (Oper.mk dst (.load 30 x) ty pos after none :: rest) a := by
  refine wpStill_step fun K hK => ?_
  simp only [Region.wanted, if_true]
  unfold Oper.still execOp
  simp only [hx, Instr.loadAt, Instr.sureAddr, Sem.run_bind, Sem.run_pure, Result.andThen_ok, run_loadVar_row w B 30 30 (cc C) (0, 0) _ hC Try.underlying30 rfl (by kernel_rfl)]
  exact ⟨rfl, hK _ h⟩
/-- A whole configuration out of its block, in whatever world that has it there. -/
theorem held_load_cf {a : Act} {w : World} {dst : Option Tmp} {x : Operand} {ty : TypeId} {pos : String} {after : Array Edge} {gd : Option (Nat × Bool)} {B : Nat} {C : Cf} (hx : a.eval x = .pointer (some ⟨B, 0, none⟩)) (hC : CB w B C) :
    (execOp a.eval (Oper.mk dst (.load 30 x) ty pos after gd)).run Try.prog w = .ok (.value (.agg (cc C))) w := by
  unfold execOp
  simp only [hx, Instr.loadAt, Instr.sureAddr, Sem.run_bind, Sem.run_pure, Result.andThen_ok, run_loadVar_row w B 30 30 (cc C) (0, 0) _ hC Try.underlying30 rfl (by kernel_rfl)]
theorem wp_load_cf {a : Act} {w : World} {K : Act → World → Prop} {Q : Exit → Act → World → Prop} {dst : Option Tmp} {x : Operand} {ty : TypeId} {pos : String} {after : Array Edge} {gd : Option (Nat × Bool)} {B : Nat} {C : Cf} (hx : a.eval x = .pointer (some ⟨B, 0, none⟩)) (hC : CB w B C)
    (h : K (a.put dst (.agg (cc C))) w) : Oper.wp Try.prog (Oper.mk dst (.load 30 x) ty pos after gd) a w K Q :=
  wp_load_row 30 x rfl B hx 30 (cc C) (0, 0) _ hC Try.underlying30 rfl (by kernel_rfl) h
/-- Prio, as an array. -/
def prc (C : Cf) : Array Value := #[.int .u8 (C.pr 0), .int .u8 (C.pr 1), .int .u8 (C.pr 2), .int .u8 (C.pr 3), .int .u8 (C.pr 4), .int .u8 (C.pr 5), .int .u8 (C.pr 6), .int .u8 (C.pr 7), .int .u8 (C.pr 8), .int .u8 (C.pr 9), .int .u8 (C.pr 10), .int .u8 (C.pr 11), .int .u8 (C.pr 12), .int .u8 (C.pr 13), .int .u8 (C.pr 14), .int .u8 (C.pr 15)]
theorem prc_at (C : Cf) (j : Nat) (hj : j < 16) : (prc C)[j]? = some (.int .u8 (C.pr j)) := by
  rcases (by omega : j = 0 ∨ j = 1 ∨ j = 2 ∨ j = 3 ∨ j = 4 ∨ j = 5 ∨ j = 6 ∨ j = 7 ∨ j = 8 ∨ j = 9 ∨ j = 10 ∨ j = 11 ∨ j = 12 ∨ j = 13 ∨ j = 14 ∨ j = 15) with rfl | rfl | rfl | rfl | rfl | rfl | rfl | rfl | rfl | rfl | rfl | rfl | rfl | rfl | rfl | rfl <;> rfl
theorem load_prio {w : World} {B : Nat} {C : Cf} (hC : CB w B C) : (loadVar 28 ⟨B, 3, none⟩).run Try.prog w = .ok (.agg (prc C)) w := by
  have hl : (loadCells ⟨B, 3, none⟩ 16).run Try.prog w = .ok (prc C) w := by
    have := run_loadCells_list (P := Try.prog) w ⟨B, 3, none⟩ (prc C).toList (fun j v hv => by
      have hj : j < 16 := by simpa [prc] using (List.getElem?_eq_some_iff.1 hv).1
      have hadd : (⟨B, 3, none⟩ : Addr).add j = ⟨B, 3 + j, none⟩ := by unfold Addr.add; split <;> simp_all
      rw [hadd, hC.prio j hj, ← prc_at C j hj]
      simpa using hv)
    have hs : (prc C).toList.length = 16 := rfl
    rw [hs] at this
    simpa using this
  simp [loadVar, Sem.run_bind, Try.isAgg28, Try.sizeOf28, Result.andThen, hl]
theorem wpList_load_prio {ops : Array Oper} {rest : List Oper} {a : Act} {w : World} {Q : Exit → Act → World → Prop} {dst : Option Tmp} {x : Operand} {ty : TypeId} {pos : String} {after : Array Edge} {gd : Option (Nat × Bool)} {B : Nat} {C : Cf} (hC : CB w B C) (hw : Region.wanted (Oper.mk dst (.load 28 x) ty pos after gd) (yielded ops a.tmps) = true) (hx : a.eval x = .pointer (some ⟨B, 3, none⟩))
    (h : wpList Try.prog ops Q rest (a.put dst (.agg (prc C))) w) : wpList Try.prog ops Q (Oper.mk dst (.load 28 x) ty pos after gd :: rest) a w :=
  wpList_step fun K hK => by
    rw [if_pos hw]
    unfold Oper.wp execOp
    simp only [hx, Instr.loadAt, Instr.sureAddr, Sem.run_bind, Sem.run_pure, Result.andThen_ok, load_prio hC]
    exact hK _ _ h
theorem decl_neq (d : D) (w : World) : (binOp .neq 39 (.agg (dca d)) (.agg (dca d))).run Try.prog w = .ok (.bool false) w := by
  unfold dca
  go_simp
theorem prio_eql (C : Cf) (w : World) : (binOp .eql 28 (.agg (prc C)) (.agg (prc C))).run Try.prog w = .ok (.bool true) w :=
  rows_eql w (prc C) C.pr (prc_at C)
set_option maxHeartbeats 4000000 in
theorem same_in (s w : Int) (fp p : Option Addr) (n fc c : Nat) (pr : Nat → Int) (sg od rt se cp bk bs : Int) (C C2 : Cf) (hC : C = ⟨s, w, fp, n, fc, pr, sg, od, rt, se, cp, bk, bs⟩) (hC2 : C2 = ⟨s, w, p, n, c, pr, sg, od, rt, se, cp, bk, bs⟩) (M : List D) (W : World) (h1 : DL W fp n fc M) (h2 : DL W p n c M) (hn : n ≤ 100000) :
    Calls Try.prog 11 #[.agg (cc C), .agg (cc C2)] W fun e w' => e = .returned (.bool true) ∧ Below W.heap.size W w' := by
  have hb0 : Below W.heap.size W ((W.alloc (.cells (cc C) 30)).alloc (.cells (cc C2) 30)) := ((Below.refl W.heap.size W).alloc (Nat.le_refl _) _).alloc (by simp) _
  have H0 : Hid (CB ((W.alloc (.cells (cc C) 30)).alloc (.cells (cc C2) 30)) W.heap.size C) := Lib.hid ((CB.new W C).later ((Below.refl _ _).alloc (Nat.le_refl _) _))
  have H1 : Hid (CB ((W.alloc (.cells (cc C) 30)).alloc (.cells (cc C2) 30)) (W.heap.size + 1) C2) := Lib.hid (by
    have h := CB.new (W.alloc (.cells (cc C) 30)) C2
    simpa using h)
  have HM1 := Lib.hid (h1.turn hb0.size fun _ a _ hlt => hb0.block a.block hlt)
  have HM2 := Lib.hid (h2.turn hb0.size fun _ a _ hlt => hb0.block a.block hlt)
  have HB0 := Lib.hid hb0
  have HP : Hid (prc C2 = prc C) := Lib.hid (by rw [hC2, hC]; rfl)
  have HQ := Lib.hid (prio_eql C)
  have HCC := Lib.hid hC
  have HCC2 := Lib.hid hC2
  clear hb0 h1 h2 hC hC2
  go_enter Try.func11, Try.ntmps11
  go_upto_region 1 with (fail)
  generalize (W.alloc (.cells (cc C) 30)).alloc (.cells (cc C2) 30) = W1 at *
  generalize hX : W.heap.size = X at *
  have HX := Lib.hid hX
  clear hX
  have z0 := block_cell (j := 2) H0.out (v := .slice fp n fc) (by rw [HCC.out]; rfl)
  have z1 := block_cell (j := 2) H1.out (v := .slice p n c) (by rw [HCC2.out]; rfl)
  go_wp2_with fail
  clear z0 z1
  go_loopw [5] (fun i wr => ∃ j : Nat, j ≤ n ∧ i = .int .i64 j ∧ Hid (Below W1.heap.size W1 wr)) (fun i _ => n - (intOf i).toNat)
  case atStart => exact ⟨0, Nat.zero_le _, rfl, Lib.hid (Below.refl _ _)⟩
  case round =>
    obtain ⟨j, hj, rfl, HB⟩ := hrel
    have z0 := block_cell (j := 2) (H0.out.later HB.out) (v := .slice fp n fc) (by rw [HCC.out]; rfl)
    have z1 := block_cell (j := 2) (H1.out.later HB.out) (v := .slice p n c) (by rw [HCC2.out]; rfl)
    by_cases hlt : j < n
    · have hlt' : (j : Int) < n := by omega
      obtain ⟨b, off, rfl, _, c0, c1, c2, c3, c4, c5⟩ := decl_cells (HM1.out.turn HB.out.size fun _ a _ hlt => HB.out.block a.block hlt) hlt
      obtain ⟨b', off', rfl, _, e0, e1, e2, e3, e4, e5⟩ := decl_cells (HM2.out.turn HB.out.size fun _ a _ hlt => HB.out.block a.block hlt) hlt
      generalize M.getD j d0 = x at *
      have hq := fun W => decl_neq x W
      simp only [dca] at hq
      have HNB : Hid (∀ q, Below W1.heap.size W1 (wr.drewN q)) := Lib.hid fun q => ⟨HB.out.os, HB.out.tape, HB.out.output, HB.out.size, HB.out.block⟩
      go_wp2_with fail
      go_quiet (fail)
      go_wp2_with fail
      go_roundw
      case rel => exact ⟨j + 1, by omega, by go_num, HNB.out _⟩
      case measure => simp [intOf]; omega
    · obtain rfl : n = j := by omega
      have HC1 := Lib.hid (H0.out.later HB.out)
      have HC2 := Lib.hid (H1.out.later HB.out)
      have a0 := block_cell (j := 0) HC1.out (v := .int .i64 s) (by rw [HCC.out]; rfl)
      have b0 := block_cell (j := 0) HC2.out (v := .int .i64 s) (by rw [HCC2.out]; rfl)
      have a1 := block_cell (j := 1) HC1.out (v := .int .i64 w) (by rw [HCC.out]; rfl)
      have b1 := block_cell (j := 1) HC2.out (v := .int .i64 w) (by rw [HCC2.out]; rfl)
      have a19 := block_cell (j := 19) HC1.out (v := .int .i64 sg) (by rw [HCC.out]; rfl)
      have b19 := block_cell (j := 19) HC2.out (v := .int .i64 sg) (by rw [HCC2.out]; rfl)
      have a20 := block_cell (j := 20) HC1.out (v := .int .i64 od) (by rw [HCC.out]; rfl)
      have b20 := block_cell (j := 20) HC2.out (v := .int .i64 od) (by rw [HCC2.out]; rfl)
      have a21 := block_cell (j := 21) HC1.out (v := .int .i64 rt) (by rw [HCC.out]; rfl)
      have b21 := block_cell (j := 21) HC2.out (v := .int .i64 rt) (by rw [HCC2.out]; rfl)
      have a22 := block_cell (j := 22) HC1.out (v := .int .i64 se) (by rw [HCC.out]; rfl)
      have b22 := block_cell (j := 22) HC2.out (v := .int .i64 se) (by rw [HCC2.out]; rfl)
      have a23 := block_cell (j := 23) HC1.out (v := .int .i64 cp) (by rw [HCC.out]; rfl)
      have b23 := block_cell (j := 23) HC2.out (v := .int .i64 cp) (by rw [HCC2.out]; rfl)
      have a24 := block_cell (j := 24) HC1.out (v := .int .i64 bk) (by rw [HCC.out]; rfl)
      have b24 := block_cell (j := 24) HC2.out (v := .int .i64 bk) (by rw [HCC2.out]; rfl)
      have a25 := block_cell (j := 25) HC1.out (v := .int .i64 bs) (by rw [HCC.out]; rfl)
      have b25 := block_cell (j := 25) HC2.out (v := .int .i64 bs) (by rw [HCC2.out]; rfl)
      have hq := HQ.out
      have hpp := HP.out
      have HE := Lib.hid (HB0.out.trans (HB.out.mono (by have := HB0.out.size; rw [HX.out] at this; exact this)))
      go_upto_region 8 with (fail)
      go_step
      simp only [List.append_eq, List.cons_append, List.nil_append]
      go_wp2_with (first | ((with_reducible refine wpList_load_prio HC1.out ?_ ?_ ?_); rfl; rfl) | ((with_reducible refine wpList_load_prio HC2.out ?_ ?_ ?_); rfl; rfl))
      go_ret
      exact ⟨rfl, by rw [HX.out]; exact HE.out⟩
end Go.Proofs.Ythkeefdapnkgeaa
