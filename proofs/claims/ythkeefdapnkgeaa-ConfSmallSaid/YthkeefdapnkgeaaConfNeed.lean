/- A configuration in a block; Area and Need. -/
import Derived.Test.YthkeefdapnkgeaaConfKit
import Derived.Laws.Rows
import Derived.KernelRfl
namespace Go.Proofs.Ythkeefdapnkgeaa
open Go.RowKit Go.ChangeShapes Go.WideShapes
set_option linter.unusedVariables false
set_option linter.unusedSimpArgs false

/-- The block B holds the configuration C. -/
def CB (w : World) (B : Nat) (C : Cf) : Prop := w.heap[B]? = some (.cells (cc C) 30 (0, 0))
theorem CB.later {w w' : World} {B : Nat} {C : Cf} (h : CB w B C) (hb : Below w.heap.size w w') : CB w' B C := block_later h hb
theorem CB.new (w : World) (C : Cf) : CB (w.alloc (.cells (cc C) 30)) w.heap.size C := alloc_block _ _
theorem CB.at {w : World} {B : Nat} {C : Cf} (h : CB w B C) : w.cell? ⟨B, 0, none⟩ = some (.int .i64 C.s) ∧ w.cell? ⟨B, 1, none⟩ = some (.int .i64 C.w) ∧ w.cell? ⟨B, 2, none⟩ = some (.slice C.fp C.fn C.fc) ∧ w.cell? ⟨B, 3, none⟩ = some (.int .u8 (C.pr 0)) ∧ w.cell? ⟨B, 4, none⟩ = some (.int .u8 (C.pr 1)) ∧ w.cell? ⟨B, 5, none⟩ = some (.int .u8 (C.pr 2)) ∧ w.cell? ⟨B, 6, none⟩ = some (.int .u8 (C.pr 3)) ∧ w.cell? ⟨B, 7, none⟩ = some (.int .u8 (C.pr 4)) ∧ w.cell? ⟨B, 8, none⟩ = some (.int .u8 (C.pr 5)) ∧ w.cell? ⟨B, 9, none⟩ = some (.int .u8 (C.pr 6)) ∧ w.cell? ⟨B, 10, none⟩ = some (.int .u8 (C.pr 7)) ∧ w.cell? ⟨B, 11, none⟩ = some (.int .u8 (C.pr 8)) ∧ w.cell? ⟨B, 12, none⟩ = some (.int .u8 (C.pr 9)) ∧ w.cell? ⟨B, 13, none⟩ = some (.int .u8 (C.pr 10)) ∧ w.cell? ⟨B, 14, none⟩ = some (.int .u8 (C.pr 11)) ∧ w.cell? ⟨B, 15, none⟩ = some (.int .u8 (C.pr 12)) ∧ w.cell? ⟨B, 16, none⟩ = some (.int .u8 (C.pr 13)) ∧ w.cell? ⟨B, 17, none⟩ = some (.int .u8 (C.pr 14)) ∧ w.cell? ⟨B, 18, none⟩ = some (.int .u8 (C.pr 15)) ∧ w.cell? ⟨B, 19, none⟩ = some (.int .i64 C.sg) ∧ w.cell? ⟨B, 20, none⟩ = some (.int .i64 C.od) ∧ w.cell? ⟨B, 21, none⟩ = some (.int .i64 C.rt) ∧ w.cell? ⟨B, 22, none⟩ = some (.int .i64 C.se) ∧ w.cell? ⟨B, 23, none⟩ = some (.int .i64 C.cp) ∧ w.cell? ⟨B, 24, none⟩ = some (.int .i64 C.bk) ∧ w.cell? ⟨B, 25, none⟩ = some (.int .i64 C.bs) :=
  ⟨block_cell h rfl, block_cell h rfl, block_cell h rfl, block_cell h rfl, block_cell h rfl, block_cell h rfl, block_cell h rfl, block_cell h rfl, block_cell h rfl, block_cell h rfl, block_cell h rfl, block_cell h rfl, block_cell h rfl, block_cell h rfl, block_cell h rfl, block_cell h rfl, block_cell h rfl, block_cell h rfl, block_cell h rfl, block_cell h rfl, block_cell h rfl, block_cell h rfl, block_cell h rfl, block_cell h rfl, block_cell h rfl, block_cell h rfl⟩
theorem CB.ats {w : World} {B : Nat} {C : Cf} (h : CB w B C) : (∀ p : After w, p.w.cell? ⟨B, 0, none⟩ = some (.int .i64 C.s)) ∧ (∀ p : After w, p.w.cell? ⟨B, 1, none⟩ = some (.int .i64 C.w)) ∧ (∀ p : After w, p.w.cell? ⟨B, 2, none⟩ = some (.slice C.fp C.fn C.fc)) ∧ (∀ p : After w, p.w.cell? ⟨B, 3, none⟩ = some (.int .u8 (C.pr 0))) ∧ (∀ p : After w, p.w.cell? ⟨B, 4, none⟩ = some (.int .u8 (C.pr 1))) ∧ (∀ p : After w, p.w.cell? ⟨B, 5, none⟩ = some (.int .u8 (C.pr 2))) ∧ (∀ p : After w, p.w.cell? ⟨B, 6, none⟩ = some (.int .u8 (C.pr 3))) ∧ (∀ p : After w, p.w.cell? ⟨B, 7, none⟩ = some (.int .u8 (C.pr 4))) ∧ (∀ p : After w, p.w.cell? ⟨B, 8, none⟩ = some (.int .u8 (C.pr 5))) ∧ (∀ p : After w, p.w.cell? ⟨B, 9, none⟩ = some (.int .u8 (C.pr 6))) ∧ (∀ p : After w, p.w.cell? ⟨B, 10, none⟩ = some (.int .u8 (C.pr 7))) ∧ (∀ p : After w, p.w.cell? ⟨B, 11, none⟩ = some (.int .u8 (C.pr 8))) ∧ (∀ p : After w, p.w.cell? ⟨B, 12, none⟩ = some (.int .u8 (C.pr 9))) ∧ (∀ p : After w, p.w.cell? ⟨B, 13, none⟩ = some (.int .u8 (C.pr 10))) ∧ (∀ p : After w, p.w.cell? ⟨B, 14, none⟩ = some (.int .u8 (C.pr 11))) ∧ (∀ p : After w, p.w.cell? ⟨B, 15, none⟩ = some (.int .u8 (C.pr 12))) ∧ (∀ p : After w, p.w.cell? ⟨B, 16, none⟩ = some (.int .u8 (C.pr 13))) ∧ (∀ p : After w, p.w.cell? ⟨B, 17, none⟩ = some (.int .u8 (C.pr 14))) ∧ (∀ p : After w, p.w.cell? ⟨B, 18, none⟩ = some (.int .u8 (C.pr 15))) ∧ (∀ p : After w, p.w.cell? ⟨B, 19, none⟩ = some (.int .i64 C.sg)) ∧ (∀ p : After w, p.w.cell? ⟨B, 20, none⟩ = some (.int .i64 C.od)) ∧ (∀ p : After w, p.w.cell? ⟨B, 21, none⟩ = some (.int .i64 C.rt)) ∧ (∀ p : After w, p.w.cell? ⟨B, 22, none⟩ = some (.int .i64 C.se)) ∧ (∀ p : After w, p.w.cell? ⟨B, 23, none⟩ = some (.int .i64 C.cp)) ∧ (∀ p : After w, p.w.cell? ⟨B, 24, none⟩ = some (.int .i64 C.bk)) ∧ (∀ p : After w, p.w.cell? ⟨B, 25, none⟩ = some (.int .i64 C.bs)) :=
  ⟨fun p => block_cell (h.later p.h) rfl, fun p => block_cell (h.later p.h) rfl, fun p => block_cell (h.later p.h) rfl, fun p => block_cell (h.later p.h) rfl, fun p => block_cell (h.later p.h) rfl, fun p => block_cell (h.later p.h) rfl, fun p => block_cell (h.later p.h) rfl, fun p => block_cell (h.later p.h) rfl, fun p => block_cell (h.later p.h) rfl, fun p => block_cell (h.later p.h) rfl, fun p => block_cell (h.later p.h) rfl, fun p => block_cell (h.later p.h) rfl, fun p => block_cell (h.later p.h) rfl, fun p => block_cell (h.later p.h) rfl, fun p => block_cell (h.later p.h) rfl, fun p => block_cell (h.later p.h) rfl, fun p => block_cell (h.later p.h) rfl, fun p => block_cell (h.later p.h) rfl, fun p => block_cell (h.later p.h) rfl, fun p => block_cell (h.later p.h) rfl, fun p => block_cell (h.later p.h) rfl, fun p => block_cell (h.later p.h) rfl, fun p => block_cell (h.later p.h) rfl, fun p => block_cell (h.later p.h) rfl, fun p => block_cell (h.later p.h) rfl, fun p => block_cell (h.later p.h) rfl⟩
/-- A whole configuration out of its block: one law, and no cell by itself. -/
theorem wpList_load_cf {ops : Array Oper} {rest : List Oper} {a : Act} {w : World} {Q : Exit → Act → World → Prop} {dst : Option Tmp} {x : Operand} {ty : TypeId} {pos : String} {after : Array Edge} {B : Nat} {C : Cf} (hC : CB w B C) (hx : a.eval x = .pointer (some ⟨B, 0, none⟩))
    (h : wpList Try.prog ops Q rest (a.put dst (.agg (cc C))) w) : wpList Try.prog ops Q (Oper.mk dst (.load 30 x) ty pos after none :: rest) a w :=
  wpList_load_row rfl 30 x rfl B hx 30 (cc C) (0, 0) _ hC Try.underlying30 rfl (by kernel_rfl) h
theorem wpList_load_cfg {ops : Array Oper} {rest : List Oper} {a : Act} {w : World} {Q : Exit → Act → World → Prop} {dst : Option Tmp} {x : Operand} {ty : TypeId} {pos : String} {after : Array Edge} {gd : Option (Nat × Bool)} {B : Nat} {C : Cf} (hC : CB w B C) (hw : Region.wanted (Oper.mk dst (.load 30 x) ty pos after gd) (yielded ops a.tmps) = true) (hx : a.eval x = .pointer (some ⟨B, 0, none⟩))
    (h : wpList Try.prog ops Q rest (a.put dst (.agg (cc C))) w) : wpList Try.prog ops Q (Oper.mk dst (.load 30 x) ty pos after gd :: rest) a w :=
  wpList_step fun K hK => by
    rw [if_pos hw]
    exact wp_load_row 30 x rfl B hx 30 (cc C) (0, 0) _ hC Try.underlying30 rfl (by kernel_rfl) (hK _ _ h)
theorem quiet_load_cf {W : World} {K : Act → Prop} {a : Act} {dst : Option Tmp} {x : Operand} {ty : TypeId} {pos : String} {after : Array Edge} {gd : Option (Nat × Bool)} {B : Nat} {C : Cf} (hC : CB W B C) (hx : a.eval x = .pointer (some ⟨B, 0, none⟩))
    (hk : K (a.put dst (.agg (cc C)))) : (Oper.mk dst (.load 30 x) ty pos after gd).quiet Try.prog a (fun w' => ∃ p : After W, w' = p.w) K := by
  refine ⟨.agg (cc C), fun w hw => ?_, hk⟩
  obtain ⟨p, rfl⟩ := hw
  unfold Oper.quietAt execOp
  simp only [hx, Instr.loadAt, Instr.sureAddr, Sem.run_bind, Sem.run_pure, Result.andThen_ok, run_loadVar_row p.w B 30 30 (cc C) (0, 0) _ (hC.later p.h) Try.underlying30 rfl (by kernel_rfl)]
  exact ⟨rfl, rfl⟩
def areaN (C : Cf) (b : Nat) : Nat := piecesN C.fn (b / 16) + piecesN (mostI C.sg C.od).toNat b
theorem most_bounds (s o : Int) : 12 ≤ mostI s o ∧ mostI s o ≤ 12932 := by
  have h1 := kept_bounds s 0 8 (by omega)
  have h2 := kept_bounds o 0 32 (by omega)
  unfold mostI
  omega
theorem pieces_le (n z : Nat) : piecesN n z ≤ n + 1 := by
  have := Nat.div_le_self n z
  unfold piecesN
  omega
set_option maxHeartbeats 1000000 in
theorem area_any (C : Cf) (b : Nat) (hb : C.bk = b) (h1 : 16 ≤ b) (h2 : b ≤ 1000000) (hn : C.fn ≤ 1000000) (W : World) : Calls Try.prog 20 #[.agg (cc C)] W fun e w' => e = .returned (.int .i64 (areaN C b : Nat)) ∧ Below W.heap.size W w' := by
  have hh := fun W => heads_any C b hb h1 h2 hn W
  have hm := fun W => most_any C.sg C.od W
  obtain ⟨M, hM⟩ : ∃ M : Nat, mostI C.sg C.od = M := ⟨(mostI C.sg C.od).toNat, by have := most_bounds C.sg C.od; omega⟩
  have hMb := most_bounds C.sg C.od
  have hA : areaN C b = piecesN C.fn (b / 16) + piecesN M b := by unfold areaN; rw [hM]; rfl
  rw [hM] at hm hMb
  have hp := fun W => pieces_any M b (by omega) (by omega) (by omega) W
  have hl1 := pieces_le C.fn (b / 16)
  have hl2 := pieces_le M b
  rw [hA]
  clear hA hM
  generalize piecesN C.fn (b / 16) = x at *
  generalize piecesN M b = y at *
  have HB := Lib.hid ((Below.refl W.heap.size W).alloc (Nat.le_refl _) (.cells (cc C) 30))
  have HC := Lib.hid (CB.new W C)
  go_enter Try.func20, Try.ntmps20
  go_wp2_with fail
  generalize W.alloc (.cells (cc C) 30) = W1 at *
  have HX : Hid (W.heap.size = W.heap.size) := Lib.hid rfl
  generalize hX : W.heap.size = X at *
  replace HX := Lib.hid hX
  clear hX
  obtain ⟨_, _, _, _, _, _, _, _, _, _, _, _, _, _, _, _, _, _, _, c19, c20, _, _, _, c24, _⟩ := HC.out.ats
  rw [hb] at c24
  clear hb
  refine wp_region_after (by kernel_rfl) (by kernel_rfl) ?_
  repeat (first | (go_big_quiet_want; (with_reducible refine quiet_load_cf HC.out ?_ ?_); rfl; go_simp; go_big_quiet_on) | go_big_quiet_step (first | (go_at_call 19; exact calls_after _ (hh _)) | (go_at_call 7; exact calls_after_same _ (hm _)) | (go_at_call 29; exact calls_after _ (hp _))))
  refine wpQuiet_nil ?_
  intro w4 hw'
  obtain ⟨⟨wq, h6⟩, hw''⟩ := hw'
  subst hw''
  clear c19 c20 c24
  go_wp2_with fail
  go_ret
  exact ⟨by simp, by rw [HX.out]; exact HB.out.trans (h6.mono (by have := HB.out.size; rw [HX.out] at this; exact this))⟩
theorem need_any (C : Cf) (b : Nat) (hb : C.bk = b) (h1 : 16 ≤ b) (h2 : b ≤ 1000000) (hn : C.fn ≤ 1000000) (W : World) : Calls Try.prog 21 #[.agg (cc C)] W fun e w' => e = .returned (.int .i64 (2 * areaN C b + 2 : Nat)) ∧ Below W.heap.size W w' := by
  have ha := fun W => area_any C b hb h1 h2 hn W
  have hl : areaN C b ≤ 2000000 := by
    have hMb := most_bounds C.sg C.od
    have hl1 := pieces_le C.fn (b / 16)
    have hl2 := pieces_le (mostI C.sg C.od).toNat b
    unfold areaN
    omega
  generalize areaN C b = x at *
  clear hb h1 h2 hn
  have HB := Lib.hid ((Below.refl W.heap.size W).alloc (Nat.le_refl _) (.cells (cc C) 30))
  have HC := Lib.hid (CB.new W C)
  go_enter Try.func21, Try.ntmps21
  go_wp2_with (first | ((with_reducible refine wpList_load_cf HC.out ?_ ?_); rfl))
  refine (ha _).mono ?_
  rintro e w' ⟨rfl, hb⟩
  go_wp2_with fail
  go_ret
  exact ⟨by simp, HB.out.trans (hb.mono HB.out.size)⟩
end Go.Proofs.Ythkeefdapnkgeaa
