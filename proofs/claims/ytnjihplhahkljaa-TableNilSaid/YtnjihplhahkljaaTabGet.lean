/- The document's Get and Del. -/
import Derived.Test.YtnjihplhahkljaaTabPut
namespace Go.Proofs.Ytnjihplhahkljaa
open Go.RowKit Go.ChangeShapes Go.WideShapes
set_option linter.unusedVariables false

theorem drop_get {M : List Rw} {j : Nat} (h : j < M.length) (k : K) : getM (M.drop j) k = if (M.getD j r0).1 = k then some (M.getD j r0).2 else getM (M.drop (j + 1)) k := by
  rw [List.drop_eq_getElem_cons h, get_cons, List.getD, List.getElem?_eq_getElem h]
  rfl
theorem take_del {M : List Rw} {j : Nat} (h : j < M.length) (k : K) : delM (M.take (j + 1)) k = if (M.getD j r0).1 = k then delM (M.take j) k else delM (M.take j) k ++ [M.getD j r0] := by
  rw [List.take_add_one, List.getElem?_eq_getElem h, List.getD, List.getElem?_eq_getElem h]
  simp only [Option.toList_some, Option.getD_some, delM, List.filter_append]
  by_cases e : M[j].1 = k
  · simp [e]
  · simp [e]
set_option maxHeartbeats 1000000 in
theorem rget_any (p : Option Addr) (n c : Nat) (L : List Rw) (k : K) (W : World) (hL : RL W p n c L) (hn : n ≤ 100000) :
    Calls Try.prog 9 #[.slice p n c, .agg #[.int .u8 k.1, .int .u8 k.2.1, .int .u8 k.2.2]] W fun e w' => e = .returned (.tuple #[.int .i64 ((getM L k).getD 0), .bool (getM L k).isSome]) ∧ Below W.heap.size W w' := by
  have HL0 := Lib.hid hL
  have HD := Lib.hid fun j (hj : j < n) => drop_get (M := L) (j := j) (by rw [hL.len]; exact hj) k
  have HLen := Lib.hid hL.len
  clear hL
  go_enter Try.func9, Try.ntmps9
  go_wp2_with fail
  have HW1 := Lib.hid ((Below.refl W.heap.size W).alloc (Nat.le_refl _) (.cells #[.int .u8 k.1, .int .u8 k.2.1, .int .u8 k.2.2] 24))
  have HL := Lib.hid (HL0.out.later ((Below.refl _ _).alloc (Nat.le_refl _) (.cells #[.int .u8 k.1, .int .u8 k.2.1, .int .u8 k.2.2] 24)))
  have HX : Hid ((W.alloc (.cells #[.int .u8 k.1, .int .u8 k.2.1, .int .u8 k.2.2] 24)).heap[W.heap.size]? = some (.cells #[.int .u8 k.1, .int .u8 k.2.1, .int .u8 k.2.2] 24 (0, 0))) := Lib.hid (alloc_block _ _)
  generalize W.alloc (.cells #[.int .u8 k.1, .int .u8 k.2.1, .int .u8 k.2.2] 24) = W1 at *
  generalize hX : W.heap.size = X at *
  have HXX := Lib.hid hX
  clear hX HL0
  go_loopw [6] (fun i wr => ∃ j : Nat, j ≤ n ∧ i = .int .i64 j ∧ Hid (Below W1.heap.size W1 wr) ∧ Hid (getM L k = getM (L.drop j) k)) (fun i _ => n - (intOf i).toNat)
  case atStart => exact ⟨0, Nat.zero_le _, rfl, Lib.hid (Below.refl _ _), Lib.hid rfl⟩
  case round =>
    obtain ⟨j, hj, rfl, HB, HG⟩ := hrel
    by_cases hlt : j < n
    · have hlt' : (j : Int) < n := by omega
      obtain ⟨b, off, rfl, c0, c1, c2, c3⟩ := row_cells (HL.out.later HB.out) hlt
      have hd := HD.out j hlt
      have x0 := block_cell (j := 0) (block_later HX.out HB.out) rfl
      have x1 := block_cell (j := 1) (block_later HX.out HB.out) rfl
      have x2 := block_cell (j := 2) (block_later HX.out HB.out) rfl
      generalize L.getD j r0 = x at *
      have qn := fun W => key_eql x.1.1 x.1.2.1 x.1.2.2 k.1 k.2.1 k.2.2 W
      have he : decide (((x.1.1, x.1.2.1, x.1.2.2) : K) = (k.1, k.2.1, k.2.2)) = decide (x.1 = k) := rfl
      rw [he] at qn
      clear he
      by_cases hxk : x.1 = k
      · rw [if_pos hxk] at hd
        rw [decide_eq_true hxk] at qn
        have HR := Lib.hid (HG.out.trans hd)
        clear hd hxk
        go_wp2_with fail
        go_quiet (fail)
        go_wp2_with fail
        go_ret2
        exact ⟨by rw [HR.out]; rfl, by rw [HXX.out]; exact HW1.out.trans ((below_drewN HB.out _).mono (by have := HW1.out.size; rw [HXX.out] at this; exact this))⟩
      · rw [if_neg hxk] at hd
        rw [decide_eq_false hxk] at qn
        have HR := Lib.hid (HG.out.trans hd)
        clear hd hxk c3
        go_wp2_with fail
        go_quiet (fail)
        go_wp2_with fail
        go_roundw
        case rel => exact ⟨j + 1, by omega, by go_num, Lib.hid (below_drewN HB.out _), HR⟩
        case measure => simp [intOf]; omega
    · obtain rfl : n = j := by omega
      have HR : Hid (getM L k = none) := Lib.hid (by rw [HG.out, List.drop_of_length_le (by rw [HLen.out]; exact Nat.le_refl _)]; rfl)
      go_wp2_with fail
      go_ret2
      exact ⟨by rw [HR.out]; rfl, by rw [HXX.out]; exact HW1.out.trans (HB.out.mono (by have := HW1.out.size; rw [HXX.out] at this; exact this))⟩
set_option maxHeartbeats 1000000 in
theorem rdel_any (p : Option Addr) (n c : Nat) (L : List Rw) (k : K) (W : World) (hL : RL W p n c L) (hn : n ≤ 100000) :
    Calls Try.prog 20 #[.slice p n c, .agg #[.int .u8 k.1, .int .u8 k.2.1, .int .u8 k.2.2]] W (GivesR W (delM L k)) := by
  have HL0 := Lib.hid hL
  have HD := Lib.hid fun j (hj : j < n) => take_del (M := L) (j := j) (by rw [hL.len]; exact hj) k
  have HLen := Lib.hid hL.len
  clear hL
  go_enter Try.func20, Try.ntmps20
  go_wp2_with fail
  have HW1 := Lib.hid ((Below.refl W.heap.size W).alloc (Nat.le_refl _) (.cells #[.int .u8 k.1, .int .u8 k.2.1, .int .u8 k.2.2] 24))
  have HL := Lib.hid (HL0.out.later ((Below.refl _ _).alloc (Nat.le_refl _) (.cells #[.int .u8 k.1, .int .u8 k.2.1, .int .u8 k.2.2] 24)))
  have HX : Hid ((W.alloc (.cells #[.int .u8 k.1, .int .u8 k.2.1, .int .u8 k.2.2] 24)).heap[W.heap.size]? = some (.cells #[.int .u8 k.1, .int .u8 k.2.1, .int .u8 k.2.2] 24 (0, 0))) := Lib.hid (alloc_block _ _)
  generalize W.alloc (.cells #[.int .u8 k.1, .int .u8 k.2.1, .int .u8 k.2.2] 24) = W1 at *
  generalize hX : W.heap.size = X at *
  have HXX := Lib.hid hX
  clear hX HL0
  go_loopw [5, 6] (fun u i wr => ∃ j : Nat, j ≤ n ∧ i = .int .i64 j ∧ Hid (FillR W1 wr u (delM (L.take j) k) j)) (fun _ i _ => n - (intOf i).toNat)
  case atStart => exact ⟨0, Nat.zero_le _, rfl, Lib.hid ⟨World.ownsRow_nil _ _ _ _, Below.refl _ _, Nat.le_refl _⟩⟩
  case round =>
    obtain ⟨j, hj, rfl, HF⟩ := hrel
    by_cases hlt : j < n
    · have hlt' : (j : Int) < n := by omega
      obtain ⟨b, off, rfl, c0, c1, c2, c3⟩ := row_cells (HL.out.later HF.out.below) hlt
      have hd := HD.out j hlt
      have x0 := block_cell (j := 0) (block_later HX.out HF.out.below) rfl
      have x1 := block_cell (j := 1) (block_later HX.out HF.out.below) rfl
      have x2 := block_cell (j := 2) (block_later HX.out HF.out.below) rfl
      generalize L.getD j r0 = x at *
      have qn := fun W => key_neq x.1.1 x.1.2.1 x.1.2.2 k.1 k.2.1 k.2.2 W
      have he : decide (((x.1.1, x.1.2.1, x.1.2.2) : K) = (k.1, k.2.1, k.2.2)) = decide (x.1 = k) := rfl
      rw [he] at qn
      clear he
      by_cases hxk : x.1 = k
      · rw [if_pos hxk] at hd
        rw [decide_eq_true hxk] at qn
        have HR := Lib.hid hd
        clear hd hxk c3
        go_wp2_with fail
        go_quiet (fail)
        go_wp2_with fail
        go_roundw
        case rel => exact ⟨j + 1, by omega, by go_num, Lib.hid (by rw [HR.out]; exact (HF.out.later (below_drewN (Below.refl _ _) _)).mono (Nat.le_succ _))⟩
        case measure => simp [intOf]; omega
      · rw [if_neg hxk] at hd
        rw [decide_eq_false hxk] at qn
        have HR := Lib.hid hd
        have hmost := HF.out.most
        have hsz := HF.out.below.size
        clear hd hxk
        generalize delM (L.take j) k = out at *
        go_wp2_with fail
        go_quiet (fail)
        go_wp2_with (at_builtin; refine wpList_append_row rfl _ _ rfl W1.heap.size _ out.length out rfl ((HF.out.later (below_drewN (Below.refl _ _) _)).own.alloc _) (by omega) x wr.heap.size rfl (row_news (wr.drewN nq) x) (by simp; omega) ?_; intro v2 w2 h1 h2)
        have HF2 := Lib.hid ((HF.out.later (below_drewN (Below.refl _ _) nq)).step _ h1 h2)
        clear h1 h2 hsz hmost
        go_wp2_with fail
        go_roundw
        case rel => exact ⟨j + 1, by omega, by go_num, Lib.hid (by rw [HR.out]; exact HF2.out)⟩
        case measure => simp [intOf]; omega
    · obtain rfl : n = j := by omega
      have HR : Hid (delM (L.take n) k = delM L k) := Lib.hid (by rw [List.take_of_length_le (by rw [HLen.out]; exact Nat.le_refl _)])
      go_wp2_with fail
      go_ret
      rw [← HR.out]
      exact (HF.out.gives rc_len (by decide)).up (by rw [HXX.out]; exact HW1.out)
end Go.Proofs.Ytnjihplhahkljaa
