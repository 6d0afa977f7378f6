/- Which warehouses a row names; ranked, where all is well. -/
import Derived.Test.YthkeefdapnkgeaaConfGood
import Derived.Test.YthkeefdapnkgeaaConfArr
import Derived.Deep.Cut
import Derived.Laws.CopyOwn
import Derived.Laws.Tables
namespace Go.Proofs.Ythkeefdapnkgeaa
open Go.RowKit Go.ChangeShapes Go.WideShapes
set_option linter.unusedVariables false
set_option linter.unusedSimpArgs false

/-- Do the first n places of a row name k? -/
def nb (f : Nat → Int) (n : Nat) (k : Int) : Bool := (List.range n).any fun i => f i == k
theorem nb_succ (f : Nat → Int) (n : Nat) (k : Int) : nb f (n + 1) k = (nb f n k || f n == k) := by simp [nb, List.range_succ]
def nbs (f : Nat → Int) (n : Nat) : Array Value := #[.bool (nb f n 0), .bool (nb f n 1), .bool (nb f n 2), .bool (nb f n 3)]
theorem nbs_one (f : Nat → Int) (n : Nat) : (nbs f n).all (·.oneCell') = true := by simp [nbs, Value.oneCell']
theorem nbs_set (f : Nat → Int) (n m : Nat) (hm : m < 4) (h : f n = m) : (nbs f n).setIfInBounds m (.bool true) = nbs f (n + 1) := by
  simp only [nbs, nb_succ, h]
  rcases (by omega : m = 0 ∨ m = 1 ∨ m = 2 ∨ m = 3) with rfl | rfl | rfl | rfl <;> simp
theorem nbs_skip (f : Nat → Int) (n m : Nat) (hm : 4 ≤ m) (h : f n = m) : nbs f n = nbs f (n + 1) := by
  have h0 : ((m : Int) == 0) = false := by rw [beq_eq_false_iff_ne]; omega
  have h1 : ((m : Int) == 1) = false := by rw [beq_eq_false_iff_ne]; omega
  have h2 : ((m : Int) == 2) = false := by rw [beq_eq_false_iff_ne]; omega
  have h3 : ((m : Int) == 3) = false := by rw [beq_eq_false_iff_ne]; omega
  simp only [nbs, nb_succ, h, h0, h1, h2, h3, Bool.or_false]
def alls (j : Nat) : Array Value := #[.bool (decide (0 < j)), .bool (decide (1 < j)), .bool (decide (2 < j)), .bool (decide (3 < j))]
theorem alls_set (j : Nat) (hj : j < 4) : (alls j).setIfInBounds j (.bool true) = alls (j + 1) := by
  rcases (by omega : j = 0 ∨ j = 1 ∨ j = 2 ∨ j = 3) with rfl | rfl | rfl | rfl <;> rfl
def rowc (f : Nat → Int) : Array Value := #[.int .u8 (f 0), .int .u8 (f 1), .int .u8 (f 2), .int .u8 (f 3)]
theorem rowc_at (f : Nat → Int) (j : Nat) (hj : j < 4) : (rowc f)[j]? = some (.int .u8 (f j)) := by
  rcases (by omega : j = 0 ∨ j = 1 ∨ j = 2 ∨ j = 3) with rfl | rfl | rfl | rfl <;> rfl
theorem four_at (x : Array Value) (hx : x.size = 4) (j : Nat) (hj : j < 4) : ∃ v, x[j]? = some v := ⟨x[j]'(by omega), Array.getElem?_eq_getElem (by omega)⟩
theorem wpList_store_b4 {ops : Array Oper} {rest : List Oper} {a : Act} {w : World} {Q : Exit → Act → World → Prop} {dst : Option Tmp} {x y : Operand} {ty : TypeId} {pos : String} {after : Array Edge} {B : Nat} {old c : Array Value} (hB : w.heap[B]? = some (.cells old 59 (0, 0))) (ho : old.size = 4)
    (hx : a.eval x = .pointer (some ⟨B, 0, none⟩)) (hy : a.eval y = .agg c) (hc : c.size = 4) (h1 : c.all (·.oneCell') = true)
    (h : wpList Try.prog ops Q rest (a.put dst undef) (w.setRow B c)) : wpList Try.prog ops Q (Oper.mk dst (.store 59 x y) ty pos after none :: rest) a w :=
  wpList_store_row rfl 59 x y rfl B c hx hy 59 old hB (by rw [hc]; kernel_rfl) (by rw [ho, hc]) h1 h
set_option maxHeartbeats 1000000 in
theorem named_any (f : Nat → Int) (hf : ∀ j, j < 4 → 0 ≤ f j ∧ f j ≤ 255) (n : Nat) (hn : n ≤ 4) (W : World) :
    Calls Try.prog 36 #[.agg #[.int .u8 (f 0), .int .u8 (f 1), .int .u8 (f 2), .int .u8 (f 3)], .int .i64 n] W fun e w' => e = .returned (.agg (nbs f n)) ∧ Below W.heap.size W w' := by
  have HF := Lib.hid hf
  have HB1 := Lib.hid ((((Below.refl W.heap.size W).alloc (Nat.le_refl _) (.cells (rowc f) 27)).alloc (by simp) (.cells #[.bool false, .bool false, .bool false, .bool false] 59)).alloc (by simp; omega) (.cells #[.bool false, .bool false, .bool false, .bool false] 59))
  have HX0 : Hid ((((W.alloc (.cells (rowc f) 27)).alloc (.cells #[.bool false, .bool false, .bool false, .bool false] 59)).alloc (.cells #[.bool false, .bool false, .bool false, .bool false] 59)).heap[W.heap.size]? = some (.cells (rowc f) 27 (0, 0))) :=
    Lib.hid (block_later (block_later (alloc_block W _) ((Below.refl _ _).alloc (Nat.le_refl _) _)) ((Below.refl _ _).alloc (Nat.le_refl _) _))
  have HX1 : Hid ((((W.alloc (.cells (rowc f) 27)).alloc (.cells #[.bool false, .bool false, .bool false, .bool false] 59)).alloc (.cells #[.bool false, .bool false, .bool false, .bool false] 59)).heap[W.heap.size + 1]? = some (.cells #[.bool false, .bool false, .bool false, .bool false] 59 (0, 0))) := by
    have h := block_later (alloc_block (W.alloc (.cells (rowc f) 27)) (.cells #[.bool false, .bool false, .bool false, .bool false] 59)) ((Below.refl _ _).alloc (Nat.le_refl _) (.cells #[.bool false, .bool false, .bool false, .bool false] 59))
    simpa using Lib.hid h
  have HX2 : Hid ((((W.alloc (.cells (rowc f) 27)).alloc (.cells #[.bool false, .bool false, .bool false, .bool false] 59)).alloc (.cells #[.bool false, .bool false, .bool false, .bool false] 59)).heap[W.heap.size + 1 + 1]? = some (.cells (nbs f 0) 59 (0, 0))) := by
    have h := alloc_block ((W.alloc (.cells (rowc f) 27)).alloc (.cells #[.bool false, .bool false, .bool false, .bool false] 59)) (.cells #[.bool false, .bool false, .bool false, .bool false] 59)
    exact Lib.hid (by simpa [nbs, nb] using h)
  unfold rowc at HB1 HX0 HX1 HX2
  have hn' : (n : Int) ≤ 4 := by omega
  clear hf
  go_enter Try.func36, Try.ntmps36
  go_wp2_with fail
  generalize ((W.alloc (.cells #[.int .u8 (f 0), .int .u8 (f 1), .int .u8 (f 2), .int .u8 (f 3)] 27)).alloc (.cells #[.bool false, .bool false, .bool false, .bool false] 59)).alloc (.cells #[.bool false, .bool false, .bool false, .bool false] 59) = W1 at *
  generalize hX : W.heap.size = X at *
  have HX := Lib.hid hX
  clear hX
  go_loopw [11] (fun i wr => ∃ j : Nat, j ≤ n ∧ i = .int .i64 j ∧ Hid (Below X W wr) ∧ Hid (wr.heap[X]? = some (.cells (rowc f) 27 (0, 0))) ∧ Hid (wr.heap[X + 1]? = some (.cells #[.bool false, .bool false, .bool false, .bool false] 59 (0, 0))) ∧ Hid (wr.heap[X + 1 + 1]? = some (.cells (nbs f j) 59 (0, 0)))) (fun i _ => n - (intOf i).toNat)
  case atStart => exact ⟨0, Nat.zero_le _, rfl, HB1, HX0, HX1, HX2⟩
  case round =>
    clear HB1 HX0 HX1 HX2
    obtain ⟨j, hj, rfl, HB, H0, H1, H2⟩ := hrel
    by_cases hlt : j < n
    · have hlt' : (j : Int) < n := by omega
      have hc := block_cell (j := j) H0.out (rowc_at f j (by omega))
      obtain ⟨m, hm⟩ : ∃ m : Nat, f j = m := ⟨(f j).toNat, by have := HF.out j (by omega); omega⟩
      rw [hm] at hc
      by_cases hm4 : m < 4
      · have hm4' : (m : Int) < 4 := by omega
        obtain ⟨v, hv⟩ := four_at (nbs f j) rfl m hm4
        have hc2 := block_cell (j := m) H2.out hv
        have hfz := block_free m H2.out
        have HN : Hid ((wr.setCell ⟨X + 1 + 1, m, none⟩ (.bool true)).heap[X + 1 + 1]? = some (.cells (nbs f (j + 1)) 59 (0, 0))) := Lib.hid (by rw [← nbs_set f j m hm4 hm]; exact block_put m _ H2.out)
        have HN0 : Hid ((wr.setCell ⟨X + 1 + 1, m, none⟩ (.bool true)).heap[X]? = some (.cells (rowc f) 27 (0, 0))) := Lib.hid ((Below.heap_setCell _ _ _ _ (by simp; omega)).trans H0.out)
        have HN1 : Hid ((wr.setCell ⟨X + 1 + 1, m, none⟩ (.bool true)).heap[X + 1]? = some (.cells #[.bool false, .bool false, .bool false, .bool false] 59 (0, 0))) := Lib.hid ((Below.heap_setCell _ _ _ _ (by simp)).trans H1.out)
        have HBN : Hid (Below X W (wr.setCell ⟨X + 1 + 1, m, none⟩ (.bool true))) := Lib.hid (HB.out.setCell (by simp; omega) _)
        clear hm hv
        go_wp2_with fail
        go_roundw
        case rel => exact ⟨j + 1, by omega, by go_num, HBN, HN0, HN1, HN⟩
        case measure => simp [intOf]; omega
      · have hm4' : ¬ (m : Int) < 4 := by omega
        have HN : Hid (wr.heap[X + 1 + 1]? = some (.cells (nbs f (j + 1)) 59 (0, 0))) := Lib.hid (by rw [← nbs_skip f j m (by omega) hm]; exact H2.out)
        clear hm
        go_wp2_with fail
        go_roundw
        case rel => exact ⟨j + 1, by omega, by go_num, HB, H0, H1, HN⟩
        case measure => simp [intOf]; omega
    · obtain rfl : n = j := by omega
      have d0 := block_cell (j := 0) H2.out (v := .bool (nb f n 0)) rfl
      have d1 := block_cell (j := 1) H2.out (v := .bool (nb f n 1)) rfl
      have d2 := block_cell (j := 2) H2.out (v := .bool (nb f n 2)) rfl
      have d3 := block_cell (j := 3) H2.out (v := .bool (nb f n 3)) rfl
      have HE : Hid ((wr.setRow (X + 1) (nbs f n)).heap[X + 1]? = some (.cells (nbs f n) 59 (0, 0))) := Lib.hid (setRow_heap wr (X + 1) _ (nbs f n) _ _ H1.out)
      have HBE : Hid (Below X W (wr.setRow (X + 1) (nbs f n))) := Lib.hid (below_setRow HB.out (by omega) _)
      go_wp2_with ((with_reducible refine wpList_store_b4 (c := nbs f n) H1.out ?_ ?_ ?_ ?_ (nbs_one f n) ?_); rfl; rfl; rfl; rfl)
      (try simp only [Exit.inBlock, Exit.then]); refine bodyPost_ret (v := .agg (nbs f n)) ?_ rfl ?_
      · exact results_cell_row rfl _ _ (X + 1) 59 (nbs f n) (0, 0) _ rfl HE.out Try.underlying59 rfl (by kernel_rfl)
      exact ⟨rfl, by rw [HX.out]; exact HBE.out⟩
/-- The row of an article. -/
def prow (C : Cf) (i : Nat) : Nat → Int := fun j => C.pr (i * 4 + j)
/-- Of each article the first places name all warehouses. -/
structure Ranked (C : Cf) (s w : Nat) : Prop where
  cs : C.s = s
  cw : C.w = w
  s4 : s ≤ 4
  w4 : w ≤ 4
  byte : ∀ j, j < 16 → 0 ≤ C.pr j ∧ C.pr j ≤ 255
  all : ∀ i, i < s → nbs (prow C i) w = alls w
theorem CB.prio {w : World} {B : Nat} {C : Cf} (h : CB w B C) (j : Nat) (hj : j < 16) : w.cell? ⟨B, 3 + j, none⟩ = some (.int .u8 (C.pr j)) := by
  refine block_cell h ?_
  rcases (by omega : j = 0 ∨ j = 1 ∨ j = 2 ∨ j = 3 ∨ j = 4 ∨ j = 5 ∨ j = 6 ∨ j = 7 ∨ j = 8 ∨ j = 9 ∨ j = 10 ∨ j = 11 ∨ j = 12 ∨ j = 13 ∨ j = 14 ∨ j = 15) with rfl | rfl | rfl | rfl | rfl | rfl | rfl | rfl | rfl | rfl | rfl | rfl | rfl | rfl | rfl | rfl <;> rfl
set_option maxHeartbeats 1000000 in
theorem ranked_in (C : Cf) (s w : Nat) (hr : Ranked C s w) (W : World) : Calls Try.prog 28 #[.agg (cc C)] W fun e w' => e = .returned (.bool true) ∧ Below W.heap.size W w' := by
  have hsI : (s : Int) ≤ 4 := by have := hr.s4; omega
  have hwI : (w : Int) ≤ 4 := by have := hr.w4; omega
  have hs4 := hr.s4
  have hw4 := hr.w4
  have HR := Lib.hid hr
  have HN : Hid (∀ i, i < s → ∀ W, Calls Try.prog 36 #[.agg #[.int .u8 (C.pr (i * 4)), .int .u8 (C.pr (i * 4 + 1)), .int .u8 (C.pr (i * 4 + 2)), .int .u8 (C.pr (i * 4 + 3))], .int .i64 w] W fun e w' => e = .returned (.agg #[.bool (decide (0 < w)), .bool (decide (1 < w)), .bool (decide (2 < w)), .bool (decide (3 < w))]) ∧ Below W.heap.size W w') := Lib.hid fun i hi W => by
    have h := named_any (prow C i) (fun j hj => hr.byte _ (by omega)) w hr.w4 W
    rw [hr.all i hi] at h
    exact h
  have hqn := fun W => bools_neq W #[.bool (decide (0 < w)), .bool (decide (1 < w)), .bool (decide (2 < w)), .bool (decide (3 < w))] (fun i => decide (i < w)) (fun i hi => by rcases (by omega : i = 0 ∨ i = 1 ∨ i = 2 ∨ i = 3) with rfl | rfl | rfl | rfl <;> rfl)
  have HQN := Lib.hid hqn
  clear hqn hr
  have HB1 := Lib.hid (((Below.refl W.heap.size W).alloc (Nat.le_refl _) (.cells (cc C) 30)).alloc (by simp) (.cells #[.bool false, .bool false, .bool false, .bool false] 59))
  have HX0 : Hid (CB ((W.alloc (.cells (cc C) 30)).alloc (.cells #[.bool false, .bool false, .bool false, .bool false] 59)) W.heap.size C) :=
    Lib.hid ((CB.new W C).later ((Below.refl _ _).alloc (Nat.le_refl _) _))
  have HX1 : Hid (((W.alloc (.cells (cc C) 30)).alloc (.cells #[.bool false, .bool false, .bool false, .bool false] 59)).heap[W.heap.size + 1]? = some (.cells (alls 0) 59 (0, 0))) := by
    have h := alloc_block (W.alloc (.cells (cc C) 30)) (.cells #[.bool false, .bool false, .bool false, .bool false] 59)
    exact Lib.hid (by simpa [alls] using h)
  go_enter Try.func28, Try.ntmps28
  go_upto_region 2 with (fail)
  generalize (W.alloc (.cells (cc C) 30)).alloc (.cells #[.bool false, .bool false, .bool false, .bool false] 59) = W1 at *
  generalize hX : W.heap.size = X at *
  have HX := Lib.hid hX
  clear hX
  have z0 := block_cell (j := 0) HX0.out (v := .int .i64 C.s) rfl
  have z1 := block_cell (j := 1) HX0.out (v := .int .i64 C.w) rfl
  rw [HR.out.cs] at z0
  rw [HR.out.cw] at z1
  go_wp2_with fail
  go_loopw [8] (fun i wr => ∃ j : Nat, j ≤ w ∧ i = .int .i64 j ∧ Hid (Below X W wr) ∧ Hid (CB wr X C) ∧ Hid (wr.heap[X + 1]? = some (.cells (alls j) 59 (0, 0)))) (fun i _ => w - (intOf i).toNat)
  case atStart => exact ⟨0, Nat.zero_le _, rfl, HB1, HX0, HX1⟩
  case round =>
    clear HB1 HX0 HX1 z0 z1
    obtain ⟨j, hj, rfl, HB, H0, H1⟩ := hrel
    by_cases hlt : j < w
    · have hlt' : (j : Int) < w := by omega
      have hj4 : j < 4 := by omega
      have hj4' : (j : Int) < 4 := by omega
      obtain ⟨v, hv⟩ := four_at (alls j) rfl j (by omega)
      have hc2 := block_cell (j := j) H1.out hv
      have hfz := block_free j H1.out
      have HN1 : Hid ((wr.setCell ⟨X + 1, j, none⟩ (.bool true)).heap[X + 1]? = some (.cells (alls (j + 1)) 59 (0, 0))) := Lib.hid (by rw [← alls_set j hj4]; exact block_put j _ H1.out)
      have HN0 : Hid (CB (wr.setCell ⟨X + 1, j, none⟩ (.bool true)) X C) := Lib.hid ((Below.heap_setCell _ _ _ _ (by simp)).trans H0.out)
      have HBN : Hid (Below X W (wr.setCell ⟨X + 1, j, none⟩ (.bool true))) := Lib.hid (HB.out.setCell (by simp) _)
      clear hv
      go_wp2_with fail
      go_roundw
      case rel => exact ⟨j + 1, by omega, by go_num, HBN, HN0, HN1⟩
      case measure => simp [intOf]; omega
    · obtain rfl : w = j := by omega
      have z0 := block_cell (j := 0) H0.out (v := .int .i64 C.s) rfl
      rw [HR.out.cs] at z0
      go_wp2_with fail
      go_loopw [16] (fun i wr => ∃ j : Nat, j ≤ s ∧ i = .int .i64 j ∧ Hid (Below X W wr) ∧ Hid (CB wr X C) ∧ Hid (wr.heap[X + 1]? = some (.cells (alls w) 59 (0, 0)))) (fun i _ => s - (intOf i).toNat)
      case atStart => exact ⟨0, Nat.zero_le _, rfl, HB, H0, H1⟩
      case round =>
        clear HB H0 H1 z0
        obtain ⟨j, hj, rfl, HB, H0, H1⟩ := hrel
        by_cases hlt2 : j < s
        · have hlt2' : (j : Int) < s := by omega
          have hj4 : j < 4 := by omega
          have hj4' : (j : Int) < 4 := by omega
          have c0 := fun p : After wr => (H0.out.later p.h).prio (j * 4) (by omega)
          have c1 := fun p : After wr => (H0.out.later p.h).prio (j * 4 + 1) (by omega)
          have c2 := fun p : After wr => (H0.out.later p.h).prio (j * 4 + 2) (by omega)
          have c3 := fun p : After wr => (H0.out.later p.h).prio (j * 4 + 3) (by omega)
          simp only [← Nat.add_assoc] at c1 c2 c3
          have z1 := fun p : After wr => block_cell (j := 1) (H0.out.later p.h) (v := .int .i64 C.w) rfl
          rw [HR.out.cw] at z1
          have a0 := fun p : After wr => block_cell (j := 0) (block_later H1.out p.h) (v := .bool (decide (0 < w))) rfl
          have a1 := fun p : After wr => block_cell (j := 1) (block_later H1.out p.h) (v := .bool (decide (1 < w))) rfl
          have a2 := fun p : After wr => block_cell (j := 2) (block_later H1.out p.h) (v := .bool (decide (2 < w))) rfl
          have a3 := fun p : After wr => block_cell (j := 3) (block_later H1.out p.h) (v := .bool (decide (3 < w))) rfl
          have hnm := HN.out j hlt2
          have hqn := HQN.out
          generalize decide (0 < w) = b0 at *
          generalize decide (1 < w) = b1 at *
          generalize decide (2 < w) = b2 at *
          generalize decide (3 < w) = b3 at *
          generalize C.pr (j * 4) = p0 at *
          generalize C.pr (j * 4 + 1) = p1 at *
          generalize C.pr (j * 4 + 2) = p2 at *
          generalize C.pr (j * 4 + 3) = p3 at *
          go_wp2_with fail
          refine wp_region_after (by kernel_rfl) (by kernel_rfl) ?_
          repeat (go_big_quiet_step (first | (go_at_call 36; exact calls_after _ (hnm _))))
          refine wpQuiet_nil ?_
          intro w4 hw'
          obtain ⟨⟨wq, h6⟩, hw''⟩ := hw'
          subst hw''
          have HBN := Lib.hid (HB.out.trans (h6.mono (by have := HB.out.size; rw [HX.out] at this; exact this)))
          have HN0 := Lib.hid (H0.out.later h6)
          have HN1 := Lib.hid (block_later H1.out h6)
          clear a0 a1 a2 a3 c0 c1 c2 c3 z1 hnm hqn h6
          go_wp2_with fail
          go_roundw
          case rel => exact ⟨j + 1, by omega, by go_num, HBN, HN0, HN1⟩
          case measure => simp [intOf]; omega
        · obtain rfl : s = j := by omega
          go_wp2_with fail
          go_ret
          exact ⟨rfl, by rw [HX.out]; exact HB.out⟩
end Go.Proofs.Ythkeefdapnkgeaa
