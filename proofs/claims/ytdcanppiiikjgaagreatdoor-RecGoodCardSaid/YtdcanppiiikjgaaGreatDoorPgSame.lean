/- Two programs, the same or not: the document's way. -/
import Derived.Test.YtdcanppiiikjgaaGreatDoorPgRow
import Derived.Test.YtdcanppiiikjgaaGreatDoorGrStepb
namespace Go.Proofs.YtdcanppiiikjgaaGreatDoor
open Go.RowKit Go.ChangeShapes Go.WideShapes
set_option linter.unusedVariables false
set_option maxRecDepth 10000

theorem take_neq (o a w z o' a' w' z' : Int) (W : World) : (binOp .neq 87 (.agg #[.int .u32 o, .int .u8 a, .int .u8 w, .int .i64 z]) (.agg #[.int .u32 o', .int .u8 a', .int .u8 w', .int .i64 z'])).run Tryz.prog W = .ok (.bool (!decide (((o, a, w, z) : Tk) = (o', a', w', z')))) W := by
  by_cases h1 : o = o'
  · by_cases h2 : a = a'
    · by_cases h3 : w = w'
      · by_cases h4 : z = z'
        · subst h1 h2 h3 h4
          go_simp
        · subst h1 h2 h3
          go_simp
      · subst h1 h2
        go_simp
    · subst h1
      go_simp
  · go_simp
theorem tklists_same {L M : List Tk} {n : Nat} (hL : L.length = n) (hM : M.length = n) (h : ∀ j, j < n → L.getD j tk0 = M.getD j tk0) : L = M := by
  apply List.ext_getElem (by omega)
  intro i h1 h2
  have := h i (by omega)
  simpa [List.getD, List.getElem?_eq_getElem h1, List.getElem?_eq_getElem h2] using this

set_option maxHeartbeats 1000000 in
theorem rsame_tk (p q : Option Addr) (n m c d : Nat) (L M : List Tk) (W : World) (hL : TKL W p n c L) (hM : TKL W q m d M) (hn : n ≤ 100000) (hm : m ≤ 100000) :
    Calls Tryz.prog 73 #[.slice p n c, .slice q m d] W fun e w' => e = .returned (.bool (decide (L = M))) ∧ Below W.heap.size W w' := by
  have HL := Lib.hid hL
  have HM := Lib.hid hM
  have hLl := hL.len
  have hMl := hM.len
  have HLN := Lib.hid hLl
  have HMN := Lib.hid hMl
  clear hL hM
  by_cases hnm : n = m
  · subst hnm
    have h0 : ((n : Int) != (n : Int)) = false := by simp
    have hcc := HL.out.cap
    have hcd := HM.out.cap
    clear hLl hMl
    go_enter Tryz.func73, Tryz.ntmps73
    go_wp2_with fail
    go_loopw [5] (fun i wr => ∃ j : Nat, j ≤ n ∧ i = .int .i64 j ∧ Hid (Below W.heap.size W wr) ∧ Hid (∀ i, i < j → L.getD i tk0 = M.getD i tk0)) (fun i _ => n - (Go.RowKit.intOf i).toNat)
    case atStart => exact ⟨0, Nat.zero_le _, rfl, Lib.hid (Below.refl _ _), Lib.hid fun i hi => by omega⟩
    case round =>
      obtain ⟨j, hj, rfl, HB, HE⟩ := hrel
      by_cases hlt : j < n
      · have hlt' : (j : Int) < n := by omega
        obtain ⟨b, off, rfl, _, c0, c1, c2, c3⟩ := take_cells (HL.out.later HB.out) hlt
        obtain ⟨b', off', rfl, _, d0, d1, d2, d3⟩ := take_cells (HM.out.later HB.out) hlt
        generalize hx : L.getD j tk0 = x at *
        generalize hy : M.getD j tk0 = y at *
        have HX := Lib.hid hx
        have HY := Lib.hid hy
        have hq := fun w => take_neq x.1 x.2.1 x.2.2.1 x.2.2.2 y.1 y.2.1 y.2.2.1 y.2.2.2 w
        have e1 : decide (((x.1, x.2.1, x.2.2.1, x.2.2.2) : Tk) = (y.1, y.2.1, y.2.2.1, y.2.2.2)) = decide (x = y) := rfl
        rw [e1] at hq
        clear e1 hx hy
        by_cases hxy : x = y
        · rw [decide_eq_true hxy] at hq
          have HXY := Lib.hid hxy
          clear hxy
          go_wp2_with fail
          go_quiet (fail)
          go_wp2_with fail
          go_roundw
          case rel =>
            refine ⟨j + 1, by omega, by go_num, Lib.hid (below_drewN HB.out _), Lib.hid fun i hi => ?_⟩
            by_cases e : i = j
            · subst e; rw [HX.out, HY.out, HXY.out]
            · exact HE.out i (by omega)
          case measure => simp [Go.RowKit.intOf]; omega
        · rw [decide_eq_false hxy] at hq
          have HF : Hid (decide (L = M) = false) := Lib.hid (decide_eq_false fun e => hxy (by rw [← HX.out, ← HY.out, e]))
          clear hxy
          go_wp2_with fail
          go_quiet (fail)
          go_wp2_with fail
          go_ret
          exact ⟨by rw [HF.out]; rfl, below_drewN HB.out _⟩
      · obtain rfl : j = n := by omega
        have HF : Hid (decide (L = M) = true) := Lib.hid (decide_eq_true (tklists_same HLN.out HMN.out HE.out))
        go_wp2_with fail
        go_ret
        exact ⟨by rw [HF.out]; rfl, HB.out⟩
  · have h0 : ((n : Int) != (m : Int)) = true := by simp; omega
    have HF : Hid (decide (L = M) = false) := Lib.hid (decide_eq_false fun e => hnm (by rw [← HLN.out, ← HMN.out, e]))
    clear hLl hMl
    go_enter Tryz.func73, Tryz.ntmps73
    go_wp2_with fail
    go_ret
    exact ⟨by rw [HF.out]; rfl, Below.refl _ _⟩

/-- Two programs in boxes. -/
theorem two_progs (W : World) (a b : Array Value) : ∃ W2, (W.alloc (.cells a 28)).alloc (.cells b 28) = W2 ∧ W2.heap[W.heap.size]? = some (.cells a 28 (0, 0)) ∧ W2.heap[W.heap.size + 1]? = some (.cells b 28 (0, 0)) ∧ Below W.heap.size W W2 := by
  refine ⟨_, rfl, ?_, ?_, ((Below.refl _ _).alloc (Nat.le_refl _) _).alloc (by simp) _⟩
  · exact (Below.heap_alloc _ _ _ (by simp)).trans (alloc_block W _)
  · have := alloc_block (W.alloc (.cells a 28)) (.cells b 28)
    rwa [World.size_alloc] at this
/-- The fields that differ first. -/
theorem prog_cases (k od po : Int) (L : List Ln) (T : List Tk) (M : List Ln) (sk fr to q : Int) (k' od' po' : Int) (L' : List Ln) (T' : List Tk) (M' : List Ln) (sk' fr' to' q' : Int) :
    ((decide ((⟨k, od, po, L, T, M, sk, fr, to, q⟩ : Pg) = ⟨k', od', po', L', T', M', sk', fr', to', q'⟩) : Bool) = ((k == k') && (od == od') && (po == po') && decide (L = L') && decide (T = T') && decide (M = M') && (sk == sk') && (fr == fr') && (to == to') && (q == q'))) := by
  rw [Bool.eq_iff_iff]
  simp [and_assoc]
end Go.Proofs.YtdcanppiiikjgaaGreatDoor
