/- Two steps, the same or not: the program's way and the document's. -/
import Derived.Test.YtnmdplefedffnaaDoorStepRow
import Derived.Test.YtnmdplefedffnaaDoorOpSame
namespace Go.Proofs.YtnmdplefedffnaaDoor
open Go.RowKit Go.ChangeShapes Go.WideShapes
set_option linter.unusedVariables false
set_option maxRecDepth 10000

theorem line_neq (a z a' z' : Int) (w : World) : (binOp .neq 44 (.agg #[.int .u8 a, .int .i64 z]) (.agg #[.int .u8 a', .int .i64 z'])).run Tryd.prog w = .ok (.bool (!decide (((a, z) : Ln) = (a', z')))) w := by
  by_cases h1 : a = a'
  · by_cases h4 : z = z'
    · subst h1 h4
      go_simp
    · subst h1
      go_simp
  · go_simp
theorem lnlists_same {L M : List Ln} {n : Nat} (hL : L.length = n) (hM : M.length = n) (h : ∀ j, j < n → L.getD j l0 = M.getD j l0) : L = M := by
  apply List.ext_getElem (by omega)
  intro i h1 h2
  have := h i (by omega)
  simpa [List.getD, List.getElem?_eq_getElem h1, List.getElem?_eq_getElem h2] using this

set_option maxHeartbeats 1000000 in
theorem rsame_ln (p q : Option Addr) (n m c d : Nat) (L M : List Ln) (W : World) (hL : LL W p n c L) (hM : LL W q m d M) (hn : n ≤ 100000) (hm : m ≤ 100000) :
    Calls Tryd.prog 30 #[.slice p n c, .slice q m d] W fun e w' => e = .returned (.bool (decide (L = M))) ∧ Below W.heap.size W w' := by
  have HL := Lib.hid hL
  have HM := Lib.hid hM
  have hLl := hL.len
  have hMl := hM.len
  have HLN := Lib.hid hLl
  have HMN := Lib.hid hMl
  clear hL hM
  by_cases hnm : n = m
  · subst hnm
    have h0 : ((n : Int) != (n : Int)) = false := by simp
    have hcc := HL.out.cap
    have hcd := HM.out.cap
    clear hLl hMl
    go_enter Tryd.func30, Tryd.ntmps30
    go_wp2_with fail
    go_loopw [5] (fun i wr => ∃ j : Nat, j ≤ n ∧ i = .int .i64 j ∧ Hid (Below W.heap.size W wr) ∧ Hid (∀ i, i < j → L.getD i l0 = M.getD i l0)) (fun i _ => n - (Go.RowKit.intOf i).toNat)
    case atStart => exact ⟨0, Nat.zero_le _, rfl, Lib.hid (Below.refl _ _), Lib.hid fun i hi => by omega⟩
    case round =>
      obtain ⟨j, hj, rfl, HB, HE⟩ := hrel
      by_cases hlt : j < n
      · have hlt' : (j : Int) < n := by omega
        obtain ⟨b, off, rfl, _, c0, c1⟩ := line_cells (HL.out.later HB.out) hlt
        obtain ⟨b', off', rfl, _, d0, d1⟩ := line_cells (HM.out.later HB.out) hlt
        generalize hx : L.getD j l0 = x at *
        generalize hy : M.getD j l0 = y at *
        have HX := Lib.hid hx
        have HY := Lib.hid hy
        have hq := fun w => line_neq x.1 x.2 y.1 y.2 w
        have e1 : decide (((x.1, x.2) : Ln) = (y.1, y.2)) = decide (x = y) := rfl
        rw [e1] at hq
        clear e1 hx hy
        by_cases hxy : x = y
        · rw [decide_eq_true hxy] at hq
          have HXY := Lib.hid hxy
          clear hxy
          go_wp2_with fail
          go_quiet (fail)
          go_wp2_with fail
          go_roundw
          case rel =>
            refine ⟨j + 1, by omega, by go_num, Lib.hid (below_drewN HB.out _), Lib.hid fun i hi => ?_⟩
            by_cases e : i = j
            · subst e; rw [HX.out, HY.out, HXY.out]
            · exact HE.out i (by omega)
          case measure => simp [Go.RowKit.intOf]; omega
        · rw [decide_eq_false hxy] at hq
          have HF : Hid (decide (L = M) = false) := Lib.hid (decide_eq_false fun e => hxy (by rw [← HX.out, ← HY.out, e]))
          clear hxy
          go_wp2_with fail
          go_quiet (fail)
          go_wp2_with fail
          go_ret
          exact ⟨by rw [HF.out]; rfl, below_drewN HB.out _⟩
      · obtain rfl : j = n := by omega
        have HF : Hid (decide (L = M) = true) := Lib.hid (decide_eq_true (lnlists_same HLN.out HMN.out HE.out))
        go_wp2_with fail
        go_ret
        exact ⟨by rw [HF.out]; rfl, HB.out⟩
  · have h0 : ((n : Int) != (m : Int)) = true := by simp; omega
    have HF : Hid (decide (L = M) = false) := Lib.hid (decide_eq_false fun e => hnm (by rw [← HLN.out, ← HMN.out, e]))
    clear hLl hMl
    go_enter Tryd.func30, Tryd.ntmps30
    go_wp2_with fail
    go_ret
    exact ⟨by rw [HF.out]; rfl, Below.refl _ _⟩

set_option maxHeartbeats 1000000 in
theorem equal_ln (p q : Option Addr) (n m c d : Nat) (L M : List Ln) (W : World) (hL : LL W p n c L) (hM : LL W q m d M) (hn : n ≤ 100000) (hm : m ≤ 100000) :
    Calls Tryd.prog 29 #[.slice p n c, .slice q m d] W fun e w' => e = .returned (.bool (decide (L = M))) ∧ Below W.heap.size W w' := by
  have HL := Lib.hid hL
  have HM := Lib.hid hM
  have HLN := Lib.hid hL.len
  have HMN := Lib.hid hM.len
  clear hL hM
  by_cases hnm : n = m
  · subst hnm
    have h0 : ((n : Int) != (n : Int)) = false := by simp
    have hcc := HL.out.cap
    have hcd := HM.out.cap
    go_enter Tryd.func29, Tryd.ntmps29
    go_wp2_with fail
    go_loopw [13] (fun i wr => ∃ j : Nat, j ≤ n ∧ i = .int .i64 j ∧ Hid (Below W.heap.size W wr) ∧ Hid (∀ i, i < j → L.getD i l0 = M.getD i l0)) (fun i _ => n - (Go.RowKit.intOf i).toNat)
    case atStart => exact ⟨0, Nat.zero_le _, rfl, Lib.hid (Below.refl _ _), Lib.hid fun i hi => by omega⟩
    case round =>
      obtain ⟨j, hj, rfl, HB, HE⟩ := hrel
      by_cases hlt : j < n
      · have hlt' : (j : Int) < n := by omega
        obtain ⟨b, off, rfl, _, c0, c1⟩ := line_cells (HL.out.later HB.out) hlt
        obtain ⟨b', off', rfl, _, d0, d1⟩ := line_cells (HM.out.later HB.out) hlt
        generalize hx : L.getD j l0 = x at *
        generalize hy : M.getD j l0 = y at *
        have HX := Lib.hid hx
        have HY := Lib.hid hy
        have hq := fun w => line_neq x.1 x.2 y.1 y.2 w
        have e1 : decide (((x.1, x.2) : Ln) = (y.1, y.2)) = decide (x = y) := rfl
        rw [e1] at hq
        clear e1 hx hy
        by_cases hxy : x = y
        · rw [decide_eq_true hxy] at hq
          have HXY := Lib.hid hxy
          clear hxy
          go_wp2_with fail
          go_quiet (fail)
          go_wp2_with fail
          go_roundw
          case rel =>
            refine ⟨j + 1, by omega, by go_num, Lib.hid (below_drewN HB.out _), Lib.hid fun i hi => ?_⟩
            by_cases e : i = j
            · subst e; rw [HX.out, HY.out, HXY.out]
            · exact HE.out i (by omega)
          case measure => simp [Go.RowKit.intOf]; omega
        · rw [decide_eq_false hxy] at hq
          have HF : Hid (decide (L = M) = false) := Lib.hid (decide_eq_false fun e => hxy (by rw [← HX.out, ← HY.out, e]))
          clear hxy
          go_wp2_with fail
          go_quiet (fail)
          go_wp2_with fail
          go_ret
          exact ⟨by rw [HF.out]; rfl, below_drewN HB.out _⟩
      · obtain rfl : j = n := by omega
        have HF : Hid (decide (L = M) = true) := Lib.hid (decide_eq_true (lnlists_same HLN.out HMN.out HE.out))
        go_wp2_with fail
        go_ret
        exact ⟨by rw [HF.out]; rfl, HB.out⟩
  · have h0 : ((n : Int) != (m : Int)) = true := by simp; omega
    have HF : Hid (decide (L = M) = false) := Lib.hid (decide_eq_false fun e => hnm (by rw [← HLN.out, ← HMN.out, e]))
    go_enter Tryd.func29, Tryd.ntmps29
    go_wp2_with fail
    go_ret
    exact ⟨by rw [HF.out]; rfl, Below.refl _ _⟩

/-- Whether two steps are the same. -/
def sameS (t r t' r' : Int) (L M : List Ln) : Bool := (t == t') && (r == r') && decide (L = M)
theorem two_steps (W : World) (a b : Array Value) (A B : Array Value) (hA : A = a) (hB : B = b) : ∃ W2, (W.alloc (.cells a 24)).alloc (.cells b 24) = W2 ∧ W2.heap[W.heap.size]? = some (.cells a 24 (0, 0)) ∧ W2.heap[W.heap.size + 1]? = some (.cells b 24 (0, 0)) ∧ Below W.heap.size W W2 := by
  refine ⟨_, rfl, ?_, ?_, ((Below.refl _ _).alloc (Nat.le_refl _) _).alloc (by simp) _⟩
  · exact (Below.heap_alloc _ _ _ (by simp)).trans (alloc_block W _)
  · have := alloc_block (W.alloc (.cells a 24)) (.cells b 24)
    rwa [World.size_alloc] at this
set_option maxHeartbeats 1000000 in
theorem same_s (t r t' r' : Int) (p q : Option Addr) (n m c d : Nat) (L M : List Ln) (W : World) (hL : LL W p n c L) (hM : LL W q m d M) (hn : n ≤ 100000) (hm : m ≤ 100000) :
    Calls Tryd.prog 19 #[.agg #[.int .u8 t, .int .u8 r, .slice p n c], .agg #[.int .u8 t', .int .u8 r', .slice q m d]] W fun e w' => e = .returned (.bool (sameS t r t' r' L M)) ∧ Below W.heap.size W w' := by
  obtain ⟨W2, hW2, k0, k1, hb⟩ := two_steps W #[.int .u8 t, .int .u8 r, .slice p n c] #[.int .u8 t', .int .u8 r', .slice q m d] _ _ rfl rfl
  have heq := equal_ln p q n m c d L M W2 (hL.later hb) (hM.later hb) hn hm
  have a0 := block_cell (j := 0) (v := .int .u8 t) k0 rfl
  have a1 := block_cell (j := 1) (v := .int .u8 r) k0 rfl
  have a2 := block_cell (j := 2) (v := .slice p n c) k0 rfl
  have b0 := block_cell (j := 0) (v := .int .u8 t') k1 rfl
  have b1 := block_cell (j := 1) (v := .int .u8 r') k1 rfl
  have b2 := block_cell (j := 2) (v := .slice q m d) k1 rfl
  have HW := Lib.hid hW2
  have HB := Lib.hid hb
  clear hL hM hb k0 k1 hW2
  cases h1 : (t == t') with
  | false =>
    have HF : Hid (sameS t r t' r' L M = false) := Lib.hid (by unfold sameS; rw [h1]; rfl)
    go_enter Tryd.func19, Tryd.ntmps19
    go_wp2_with fail
    go_ret
    rw [HW.out]
    exact ⟨by rw [HF.out]; rfl, HB.out⟩
  | true =>
    cases h2 : (r == r') with
    | false =>
      have HF : Hid (sameS t r t' r' L M = false) := Lib.hid (by unfold sameS; rw [h1, h2]; rfl)
      go_enter Tryd.func19, Tryd.ntmps19
      go_wp2_with fail
      go_ret
      rw [HW.out]
      exact ⟨by rw [HF.out]; rfl, HB.out⟩
    | true =>
      have HF : Hid (sameS t r t' r' L M = decide (L = M)) := Lib.hid (by unfold sameS; rw [h1, h2]; rfl)
      go_enter Tryd.func19, Tryd.ntmps19
      go_wp2_with fail
      rw [HW.out]
      refine heq.mono ?_
      rintro e w3 ⟨rfl, h3⟩
      have HB3 := Lib.hid (HB.out.trans (h3.mono HB.out.size))
      clear heq h3 a0 a1 a2 b0 b1 b2
      go_wp2_with fail
      go_ret
      exact ⟨by rw [HF.out]; rfl, HB3.out⟩
set_option maxHeartbeats 1000000 in
theorem rsame_s (t r t' r' : Int) (p q : Option Addr) (n m c d : Nat) (L M : List Ln) (W : World) (hL : LL W p n c L) (hM : LL W q m d M) (hn : n ≤ 100000) (hm : m ≤ 100000) :
    Calls Tryd.prog 20 #[.agg #[.int .u8 t, .int .u8 r, .slice p n c], .agg #[.int .u8 t', .int .u8 r', .slice q m d]] W fun e w' => e = .returned (.bool (sameS t r t' r' L M)) ∧ Below W.heap.size W w' := by
  obtain ⟨W2, hW2, k0, k1, hb⟩ := two_steps W #[.int .u8 t, .int .u8 r, .slice p n c] #[.int .u8 t', .int .u8 r', .slice q m d] _ _ rfl rfl
  have heq := rsame_ln p q n m c d L M W2 (hL.later hb) (hM.later hb) hn hm
  have a0 := block_cell (j := 0) (v := .int .u8 t) k0 rfl
  have a1 := block_cell (j := 1) (v := .int .u8 r) k0 rfl
  have a2 := block_cell (j := 2) (v := .slice p n c) k0 rfl
  have b0 := block_cell (j := 0) (v := .int .u8 t') k1 rfl
  have b1 := block_cell (j := 1) (v := .int .u8 r') k1 rfl
  have b2 := block_cell (j := 2) (v := .slice q m d) k1 rfl
  have HW := Lib.hid hW2
  have HB := Lib.hid hb
  clear hL hM hb k0 k1 hW2
  cases h1 : (t == t') with
  | false =>
    have HF : Hid (sameS t r t' r' L M = false) := Lib.hid (by unfold sameS; rw [h1]; rfl)
    go_enter Tryd.func20, Tryd.ntmps20
    go_wp2_with fail
    go_ret
    rw [HW.out]
    exact ⟨by rw [HF.out]; rfl, HB.out⟩
  | true =>
    cases h2 : (r == r') with
    | false =>
      have HF : Hid (sameS t r t' r' L M = false) := Lib.hid (by unfold sameS; rw [h1, h2]; rfl)
      go_enter Tryd.func20, Tryd.ntmps20
      go_wp2_with fail
      go_ret
      rw [HW.out]
      exact ⟨by rw [HF.out]; rfl, HB.out⟩
    | true =>
      have HF : Hid (sameS t r t' r' L M = decide (L = M)) := Lib.hid (by unfold sameS; rw [h1, h2]; rfl)
      go_enter Tryd.func20, Tryd.ntmps20
      go_wp2_with fail
      rw [HW.out]
      refine heq.mono ?_
      rintro e w3 ⟨rfl, h3⟩
      have HB3 := Lib.hid (HB.out.trans (h3.mono HB.out.size))
      clear heq h3 a0 a1 a2 b0 b1 b2
      go_wp2_with fail
      go_ret
      exact ⟨by rw [HF.out]; rfl, HB3.out⟩
theorem sameS_self (t r : Int) (L : List Ln) : sameS t r t r L L = true := by simp [sameS]
end Go.Proofs.YtnmdplefedffnaaDoor
