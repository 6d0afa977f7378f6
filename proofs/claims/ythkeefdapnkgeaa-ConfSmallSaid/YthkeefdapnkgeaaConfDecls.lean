/- Decl: what a configuration says of a key. -/
import Derived.Test.YthkeefdapnkgeaaConfMade
import Derived.Test.YthkeefdapnkgeaaKeyEq
import Derived.Laws.ResultCell
import Derived.Deep.QuietTactic
import Derived.BigQuiet
namespace Go.Proofs.Ythkeefdapnkgeaa
open Go.RowKit Go.ChangeShapes Go.WideShapes
set_option linter.unusedVariables false
set_option linter.unusedSimpArgs false

/-- The first declaration of a key. -/
def fd (M : List D) (k : K) : Option D := M.find? fun d => decide (d.1 = k)
theorem fd_found (k : K) : ∀ (M : List D) (j : Nat), j < M.length → (∀ i, i < j → (M.getD i d0).1 ≠ k) → (M.getD j d0).1 = k → fd M k = some (M.getD j d0)
  | x :: M, 0, _, _, hx => by
    have hx' : x.1 = k := by simpa using hx
    simp [fd, List.find?, hx']
  | x :: M, j + 1, hj, hb, hx => by
    have h0 : x.1 ≠ k := by simpa using hb 0 (by omega)
    have ih := fd_found k M j (by simpa using hj) (fun i hi => by simpa using hb (i + 1) (by omega)) (by simpa using hx)
    unfold fd at *
    simp only [List.find?, decide_eq_false h0]
    simpa using ih
theorem fd_none (k : K) : ∀ (M : List D), (∀ i, i < M.length → (M.getD i d0).1 ≠ k) → fd M k = none
  | [], _ => rfl
  | x :: M, hb => by
    have h0 : x.1 ≠ k := by simpa using hb 0 (by simp)
    have ih := fd_none k M (fun i hi => by simpa using hb (i + 1) (by simpa using hi))
    unfold fd at *
    simp only [List.find?, decide_eq_false h0]
    exact ih
/-- A declaration's cells, as an array. -/
def dca (d : D) : Array Value := #[.int .u8 d.1.1, .int .u8 d.1.2.1, .int .u8 d.1.2.2, .int .i64 d.2.1, .int .i64 d.2.2.1, .int .i64 d.2.2.2]
theorem dca_one (d : D) : (dca d).all (·.oneCell') = true := by simp [dca, Value.oneCell']
theorem wpList_store_decl {ops : Array Oper} {rest : List Oper} {a : Act} {w : World} {Q : Exit → Act → World → Prop} {dst : Option Tmp} {x y : Operand} {ty : TypeId} {pos : String} {after : Array Edge} {B : Nat} {d d' : D} (hB : w.heap[B]? = some (.cells (dca d') 39 (0, 0)))
    (hx : a.eval x = .pointer (some ⟨B, 0, none⟩)) (hy : a.eval y = .agg (dca d))
    (h : wpList Try.prog ops Q rest (a.put dst undef) (w.setRow B (dca d))) : wpList Try.prog ops Q (Oper.mk dst (.store 39 x y) ty pos after none :: rest) a w :=
  wpList_store_row rfl 39 x y rfl B (dca d) hx hy 39 (dca d') hB (by kernel_rfl) rfl (dca_one d) h
theorem results_decl {fn : Func} (h : fn.results = #[.cell 4 39, .tmp 5]) (tmps : Array Value) (W : World) (R : Nat) (d : D) (v : Value) (hp : tmps.getD 4 undef = .pointer (some ⟨R, 0, none⟩)) (hv : tmps.getD 5 undef = v)
    (hB : W.heap[R]? = some (.cells (dca d) 39 (0, 0))) : (results fn tmps).run Try.prog W = .ok (.tuple #[.agg (dca d), v]) W := by
  rw [results_cell_tmp h, hp, hv]
  simp [asAddr, Result.andThen, run_loadVar_row W R 39 39 (dca d) (0, 0) _ hB Try.underlying39 rfl (by kernel_rfl)]
theorem decl_eql (d : D) (w : World) : (binOp .eql 39 (.agg (dca d)) (.agg (dca d))).run Try.prog w = .ok (.bool true) w := by
  unfold dca
  go_simp
set_option maxHeartbeats 1000000 in
theorem decl_any (c : Array Value) (p : Option Addr) (n cap : Nat) (h2 : c[2]? = some (.slice p n cap)) (M : List D) (k : K) (W : World) (hM : DL W p n cap M) (hn : n ≤ 100000) :
    Calls Try.prog 14 #[.agg c, .agg #[.int .u8 k.1, .int .u8 k.2.1, .int .u8 k.2.2]] W fun e w' => e = .returned (.tuple #[.agg (dca ((fd M k).getD d0)), .bool (fd M k).isSome]) ∧ Below W.heap.size W w' := by
  have hb1 : Below W.heap.size W (((W.alloc (.cells c 30)).alloc (.cells #[.int .u8 k.1, .int .u8 k.2.1, .int .u8 k.2.2] 37)).alloc (.cells (dca d0) 39)) :=
    (((Below.refl W.heap.size W).alloc (Nat.le_refl _) _).alloc (by simp) _).alloc (by simp; omega) _
  have hx0 : (((W.alloc (.cells c 30)).alloc (.cells #[.int .u8 k.1, .int .u8 k.2.1, .int .u8 k.2.2] 37)).alloc (.cells (dca d0) 39)).heap[W.heap.size]? = some (.cells c 30 (0, 0)) :=
    block_later (block_later (alloc_block W _) ((Below.refl _ _).alloc (Nat.le_refl _) _)) ((Below.refl _ _).alloc (Nat.le_refl _) _)
  have hx1 : (((W.alloc (.cells c 30)).alloc (.cells #[.int .u8 k.1, .int .u8 k.2.1, .int .u8 k.2.2] 37)).alloc (.cells (dca d0) 39)).heap[W.heap.size + 1]? = some (.cells #[.int .u8 k.1, .int .u8 k.2.1, .int .u8 k.2.2] 37 (0, 0)) := by
    have h := block_later (alloc_block (W.alloc (.cells c 30)) (.cells #[.int .u8 k.1, .int .u8 k.2.1, .int .u8 k.2.2] 37)) ((Below.refl _ _).alloc (Nat.le_refl _) (.cells (dca d0) 39))
    simpa using h
  have hx2 : (((W.alloc (.cells c 30)).alloc (.cells #[.int .u8 k.1, .int .u8 k.2.1, .int .u8 k.2.2] 37)).alloc (.cells (dca d0) 39)).heap[W.heap.size + 1 + 1]? = some (.cells (dca d0) 39 (0, 0)) := by
    have h := alloc_block ((W.alloc (.cells c 30)).alloc (.cells #[.int .u8 k.1, .int .u8 k.2.1, .int .u8 k.2.2] 37)) (.cells (dca d0) 39)
    simpa using h
  have HM := Lib.hid (hM.turn hb1.size fun _ a _ hlt => hb1.block a.block hlt)
  have HLEN := Lib.hid hM.len
  have HC := Lib.hid h2
  have hdz : dca d0 = #[.int .u8 0, .int .u8 0, .int .u8 0, .int .i64 0, .int .i64 0, .int .i64 0] := rfl
  rw [hdz] at hb1 hx0 hx1 hx2 HM
  have HB1 := Lib.hid hb1
  have HX0 := Lib.hid hx0
  have HX1 := Lib.hid hx1
  have HX2 := Lib.hid hx2
  clear hb1 hx0 hx1 hx2 hdz hM h2
  go_enter Try.func14, Try.ntmps14
  go_upto_region 1 with (fail)
  generalize ((W.alloc (.cells c 30)).alloc (.cells #[.int .u8 k.1, .int .u8 k.2.1, .int .u8 k.2.2] 37)).alloc (.cells #[.int .u8 0, .int .u8 0, .int .u8 0, .int .i64 0, .int .i64 0, .int .i64 0] 39) = W1 at *
  generalize hX : W.heap.size = X at *
  have HX := Lib.hid hX
  clear hX
  have z2 := block_cell (j := 2) HX0.out HC.out
  go_wp2_with fail
  go_loopw [11] (fun i wr => ∃ j : Nat, j ≤ n ∧ i = .int .i64 j ∧ Hid (Below W1.heap.size W1 wr) ∧ Hid (∀ i, i < j → (M.getD i d0).1 ≠ k)) (fun i _ => n - (intOf i).toNat)
  case atStart => exact ⟨0, Nat.zero_le _, rfl, Lib.hid (Below.refl _ _), Lib.hid fun i hi => by omega⟩
  case round =>
    clear z2
    obtain ⟨j, hj, rfl, HB, HE⟩ := hrel
    have HBX := Lib.hid (HB1.out.trans (HB.out.mono (by have := HB1.out.size; rw [HX.out] at this; exact this)))
    by_cases hlt : j < n
    · have hlt' : (j : Int) < n := by omega
      obtain ⟨b, off, rfl, hbl, c0, c1, c2, c3, c4, c5⟩ := decl_cells (HM.out.turn HB.out.size fun _ a _ hlt => HB.out.block a.block hlt) hlt
      have x0 := block_cell (j := 0) (block_later HX1.out HB.out) (v := .int .u8 k.1) rfl
      have x1 := block_cell (j := 1) (block_later HX1.out HB.out) (v := .int .u8 k.2.1) rfl
      have x2 := block_cell (j := 2) (block_later HX1.out HB.out) (v := .int .u8 k.2.2) rfl
      have hxl := block_lt (block_later HX1.out HB.out)
      have HF0 := Lib.hid fun hx => fd_found k M j (by rw [HLEN.out]; exact hlt) HE.out hx
      have HF1 : Hid ((M.getD j d0).1 ≠ k → ∀ i, i < j + 1 → (M.getD i d0).1 ≠ k) := Lib.hid fun hx i hi => by
        by_cases hij : i = j
        · rw [hij]; exact hx
        · exact HE.out i (by omega)
      generalize M.getD j d0 = d at *
      have qn := fun W => key_eql d.1.1 d.1.2.1 d.1.2.2 k.1 k.2.1 k.2.2 W
      have hd : decide (((d.1.1, d.1.2.1, d.1.2.2) : K) = (k.1, k.2.1, k.2.2)) = decide (d.1 = k) := rfl
      rw [hd] at qn
      clear hd
      by_cases hdk : d.1 = k
      · rw [decide_eq_true hdk] at qn
        have HF := Lib.hid (HF0.out hdk)
        have HN2 := Lib.hid (block_later (block_later HX2.out HB.out) ((Below.refl _ _).alloc (Nat.le_refl _) (.cells #[.int .u8 d.1.1, .int .u8 d.1.2.1, .int .u8 d.1.2.2, .int .i64 d.2.1, .int .i64 d.2.2.1, .int .i64 d.2.2.2] 39)))
        have HNB := Lib.hid (HBX.out.alloc (by have := HBX.out.size; rw [HX.out] at this; exact this) (.cells #[.int .u8 d.1.1, .int .u8 d.1.2.1, .int .u8 d.1.2.2, .int .i64 d.2.1, .int .i64 d.2.2.1, .int .i64 d.2.2.2] 39))
        have HDC := Lib.hid (alloc_block wr (.cells #[.int .u8 d.1.1, .int .u8 d.1.2.1, .int .u8 d.1.2.2, .int .i64 d.2.1, .int .i64 d.2.2.1, .int .i64 d.2.2.2] 39))
        clear HF0 HF1 hdk
        go_upto_region 5 with (fail)
        generalize wr.alloc (.cells #[.int .u8 d.1.1, .int .u8 d.1.2.1, .int .u8 d.1.2.2, .int .i64 d.2.1, .int .i64 d.2.2.1, .int .i64 d.2.2.2] 39) = W2 at *
        generalize wr.heap.size = Y at *
        clear c0 c1 c2 c3 c4 c5 x0 x1 x2 qn
        have y0 := block_cell (j := 0) HDC.out (v := .int .u8 d.1.1) rfl
        have y1 := block_cell (j := 1) HDC.out (v := .int .u8 d.1.2.1) rfl
        have y2 := block_cell (j := 2) HDC.out (v := .int .u8 d.1.2.2) rfl
        have y3 := block_cell (j := 3) HDC.out (v := .int .i64 d.2.1) rfl
        have y4 := block_cell (j := 4) HDC.out (v := .int .i64 d.2.2.1) rfl
        have y5 := block_cell (j := 5) HDC.out (v := .int .i64 d.2.2.2) rfl
        have HE2 := Lib.hid (setRow_heap W2 (X + 1 + 1) _ (dca d) _ _ HN2.out)
        have HB3 := Lib.hid (below_setRow HNB.out (show X ≤ X + 1 + 1 by omega) (dca d))
        go_wp2_with ((with_reducible refine wpList_store_decl (d := d) (d' := d0) HN2.out ?_ ?_ ?_); rfl; rfl)
        (try simp only [Exit.inBlock, Exit.then]); refine bodyPost_ret (v := .tuple #[.agg (dca d), .bool true]) ?_ rfl ?_
        · exact results_decl rfl _ _ (X + 1 + 1) d _ rfl rfl HE2.out
        exact ⟨by rw [HF.out]; rfl, by rw [HX.out]; exact HB3.out⟩
      · rw [decide_eq_false hdk] at qn
        have HF := Lib.hid (HF1.out hdk)
        have HNB := Lib.hid (HB.out.alloc HB.out.size (.cells #[.int .u8 d.1.1, .int .u8 d.1.2.1, .int .u8 d.1.2.2, .int .i64 d.2.1, .int .i64 d.2.2.1, .int .i64 d.2.2.2] 39))
        clear HF0 HF1 hdk
        go_wp2_with fail
        go_roundw
        case rel => exact ⟨j + 1, by omega, by go_num, HNB, HF⟩
        case measure => simp [intOf]; omega
    · obtain rfl : n = j := by omega
      have HF := Lib.hid (fd_none k M (fun i hi => HE.out i (by rw [HLEN.out] at hi; exact hi)))
      have HN2 := Lib.hid (block_later HX2.out HB.out)
      have HE2 := Lib.hid (setRow_heap wr (X + 1 + 1) _ (dca d0) _ _ HN2.out)
      have HB3 := Lib.hid (below_setRow HBX.out (show X ≤ X + 1 + 1 by omega) (dca d0))
      go_wp2_with ((with_reducible refine wpList_store_decl (d := d0) (d' := d0) HN2.out ?_ ?_ ?_); rfl; rfl)
      (try simp only [Exit.inBlock, Exit.then]); refine bodyPost_ret (v := .tuple #[.agg (dca d0), .bool false]) ?_ rfl ?_
      · exact results_decl rfl _ _ (X + 1 + 1) d0 _ rfl rfl HE2.out
      exact ⟨by rw [HF.out]; rfl, by rw [HX.out]; exact HB3.out⟩
end Go.Proofs.Ythkeefdapnkgeaa
