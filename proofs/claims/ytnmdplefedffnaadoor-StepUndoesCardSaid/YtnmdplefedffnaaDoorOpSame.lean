/- Two lists of additions, the same or not: the program's way and the document's. -/
import Derived.Test.YtnmdplefedffnaaDoorOpRow
namespace Go.Proofs.YtnmdplefedffnaaDoor
open Go.RowKit Go.ChangeShapes Go.WideShapes
set_option linter.unusedVariables false

theorem op_neq (a b c z a' b' c' z' : Int) (w : World) : (binOp .neq 39 (.agg #[.int .u8 a, .int .u8 b, .int .u8 c, .int .i64 z]) (.agg #[.int .u8 a', .int .u8 b', .int .u8 c', .int .i64 z'])).run Tryd.prog w = .ok (.bool (!decide ((((a, b, c), z) : O) = ((a', b', c'), z')))) w := by
  by_cases h1 : a = a'
  · by_cases h2 : b = b'
    · by_cases h3 : c = c'
      · by_cases h4 : z = z'
        · subst h1 h2 h3 h4
          go_simp
        · subst h1 h2 h3
          go_simp
      · subst h1 h2
        go_simp
    · subst h1
      go_simp
  · go_simp
theorem op_eql (a b c z a' b' c' z' : Int) (w : World) : (binOp .eql 39 (.agg #[.int .u8 a, .int .u8 b, .int .u8 c, .int .i64 z]) (.agg #[.int .u8 a', .int .u8 b', .int .u8 c', .int .i64 z'])).run Tryd.prog w = .ok (.bool (decide ((((a, b, c), z) : O) = ((a', b', c'), z')))) w := by
  by_cases h1 : a = a'
  · by_cases h2 : b = b'
    · by_cases h3 : c = c'
      · by_cases h4 : z = z'
        · subst h1 h2 h3 h4
          go_simp
        · subst h1 h2 h3
          go_simp
      · subst h1 h2
        go_simp
    · subst h1
      go_simp
  · go_simp
theorem lists_same {L M : List O} {n : Nat} (hL : L.length = n) (hM : M.length = n) (h : ∀ j, j < n → L.getD j o0 = M.getD j o0) : L = M := by
  apply List.ext_getElem (by omega)
  intro i h1 h2
  have := h i (by omega)
  simpa [List.getD, List.getElem?_eq_getElem h1, List.getElem?_eq_getElem h2] using this

set_option maxHeartbeats 1000000 in
theorem rsame_o (p q : Option Addr) (n m c d : Nat) (L M : List O) (W : World) (hL : OL W p n c L) (hM : OL W q m d M) (hn : n ≤ 100000) (hm : m ≤ 100000) :
    Calls Tryd.prog 12 #[.slice p n c, .slice q m d] W fun e w' => e = .returned (.bool (decide (L = M))) ∧ Below W.heap.size W w' := by
  have HL := Lib.hid hL
  have HM := Lib.hid hM
  have hLl := hL.len
  have hMl := hM.len
  have HLN := Lib.hid hLl
  have HMN := Lib.hid hMl
  clear hL hM
  by_cases hnm : n = m
  · subst hnm
    have h0 : ((n : Int) != (n : Int)) = false := by simp
    have hcc := HL.out.cap
    have hcd := HM.out.cap
    clear hLl hMl
    go_enter Tryd.func12, Tryd.ntmps12
    go_wp2_with fail
    go_loopw [5] (fun i wr => ∃ j : Nat, j ≤ n ∧ i = .int .i64 j ∧ Hid (Below W.heap.size W wr) ∧ Hid (∀ i, i < j → L.getD i o0 = M.getD i o0)) (fun i _ => n - (intOf i).toNat)
    case atStart => exact ⟨0, Nat.zero_le _, rfl, Lib.hid (Below.refl _ _), Lib.hid fun i hi => by omega⟩
    case round =>
      obtain ⟨j, hj, rfl, HB, HE⟩ := hrel
      by_cases hlt : j < n
      · have hlt' : (j : Int) < n := by omega
        obtain ⟨b, off, rfl, _, c0, c1, c2, c3⟩ := op_cells (HL.out.later HB.out) hlt
        obtain ⟨b', off', rfl, _, d0, d1, d2, d3⟩ := op_cells (HM.out.later HB.out) hlt
        generalize hx : L.getD j o0 = x at *
        generalize hy : M.getD j o0 = y at *
        have HX := Lib.hid hx
        have HY := Lib.hid hy
        have hq := fun w => op_neq x.1.1 x.1.2.1 x.1.2.2 x.2 y.1.1 y.1.2.1 y.1.2.2 y.2 w
        have e1 : decide ((((x.1.1, x.1.2.1, x.1.2.2), x.2) : O) = ((y.1.1, y.1.2.1, y.1.2.2), y.2)) = decide (x = y) := rfl
        rw [e1] at hq
        clear e1 hx hy
        by_cases hxy : x = y
        · rw [decide_eq_true hxy] at hq
          have HXY := Lib.hid hxy
          clear hxy
          go_wp2_with fail
          go_quiet (fail)
          go_wp2_with fail
          go_roundw
          case rel =>
            refine ⟨j + 1, by omega, by go_num, Lib.hid (below_drewN HB.out _), Lib.hid fun i hi => ?_⟩
            by_cases e : i = j
            · subst e; rw [HX.out, HY.out, HXY.out]
            · exact HE.out i (by omega)
          case measure => simp [intOf]; omega
        · rw [decide_eq_false hxy] at hq
          have HF : Hid (decide (L = M) = false) := Lib.hid (decide_eq_false fun e => hxy (by rw [← HX.out, ← HY.out, e]))
          clear hxy
          go_wp2_with fail
          go_quiet (fail)
          go_wp2_with fail
          go_ret
          exact ⟨by rw [HF.out]; rfl, below_drewN HB.out _⟩
      · obtain rfl : j = n := by omega
        have HF : Hid (decide (L = M) = true) := Lib.hid (decide_eq_true (lists_same HLN.out HMN.out HE.out))
        go_wp2_with fail
        go_ret
        exact ⟨by rw [HF.out]; rfl, HB.out⟩
  · have h0 : ((n : Int) != (m : Int)) = true := by simp; omega
    have HF : Hid (decide (L = M) = false) := Lib.hid (decide_eq_false fun e => hnm (by rw [← HLN.out, ← HMN.out, e]))
    clear hLl hMl
    go_enter Tryd.func12, Tryd.ntmps12
    go_wp2_with fail
    go_ret
    exact ⟨by rw [HF.out]; rfl, Below.refl _ _⟩

end Go.Proofs.YtnmdplefedffnaaDoor
