/- The document's answers on which keys there are: Good, Same, All, Place. -/
import Derived.Test.YtlmfmccbefgjgaaDoorKeyQuiet
namespace Go.Proofs.YtlmfmccbefgjgaaDoor
open Go.RowKit Go.ChangeShapes Go.WideShapes
set_option linter.unusedVariables false

theorem below_drewN {B : Nat} {a w : World} (h : Below B a w) (q : Nat) : Below B a (w.drewN q) := ⟨h.os, h.tape, h.output, h.size, h.block⟩
theorem same_any (p : Option Addr) (n c : Nat) (L : List K) (p' : Option Addr) (n' c' : Nat) (M : List K) (W : World) (h1 : KL W p n c L) (h2 : KL W p' n' c' M) (hn : n ≤ 100000) :
    Calls Tryd.prog 5 #[.slice p n c, .slice p' n' c'] W fun e w' => e = .returned (.bool (decide (L = M))) ∧ Below W.heap.size W w' := by
  have H1 := Lib.hid h1
  have H2 := Lib.hid h2
  clear h1 h2
  by_cases hnn : n = n'
  · subst hnn
    go_enter Tryd.func5, Tryd.ntmps5
    go_wp2_with fail
    go_loopw [5] (fun i wr => ∃ k : Nat, k ≤ n ∧ i = .int .i64 k ∧ Hid (Below W.heap.size W wr) ∧ Hid (∀ j, j < k → L.getD j (0, 0, 0) = M.getD j (0, 0, 0))) (fun i _ => n - (intOf i).toNat)
    case atStart => exact ⟨0, Nat.zero_le _, rfl, Lib.hid (Below.refl _ _), Lib.hid fun j hj => by omega⟩
    case round =>
      obtain ⟨k, hk, rfl, HB, HE⟩ := hrel
      by_cases hlt : k < n
      · have hlt' : (k : Int) < n := by omega
        obtain ⟨b, off, rfl, hc1⟩ := (H1.out.later HB.out).cell (by omega)
        obtain ⟨b', off', rfl, hc2⟩ := (H2.out.later HB.out).cell (by omega)
        obtain ⟨c0, c1, c2⟩ := hc1 k hlt
        obtain ⟨d0, d1, d2⟩ := hc2 k hlt
        clear hc1 hc2
        have HEQ : Hid ((L.getD k (0, 0, 0) = M.getD k (0, 0, 0)) ↔ (L.getD k (0, 0, 0) = M.getD k (0, 0, 0))) := Lib.hid Iff.rfl
        generalize hx : L.getD k (0, 0, 0) = x at *
        generalize hy : M.getD k (0, 0, 0) = y at *
        have HX := Lib.hid hx
        have HY := Lib.hid hy
        clear hx hy
        have qn := fun W => key_neq x.1 x.2.1 x.2.2 y.1 y.2.1 y.2.2 W
        have hd : decide (((x.1, x.2.1, x.2.2) : K) = (y.1, y.2.1, y.2.2)) = decide (x = y) := rfl
        rw [hd] at qn
        by_cases hxy : x = y
        · rw [decide_eq_true hxy] at qn
          have HXY := Lib.hid hxy
          clear hxy hd
          go_wp2_with fail
          go_quiet (fail)
          go_wp2_with fail
          go_roundw
          case rel =>
            refine ⟨k + 1, by omega, by go_num, Lib.hid (below_drewN HB.out _), Lib.hid fun j hj => ?_⟩
            by_cases hjk : j = k
            · rw [hjk, HX.out, HY.out]; exact HXY.out
            · exact HE.out j (by omega)
          case measure => simp [intOf]; omega
        · rw [decide_eq_false hxy] at qn
          have hLM : decide (L = M) = false := decide_eq_false fun e => hxy (by rw [← HX.out, ← HY.out, e])
          have HLM := Lib.hid hLM
          clear hxy hd hLM HEQ
          go_wp2_with fail
          go_quiet (fail)
          go_wp2_with fail
          go_ret
          exact ⟨by rw [HLM.out]; rfl, below_drewN HB.out _⟩
      · obtain rfl : k = n := by omega
        have hLM : decide (L = M) = true := by
          refine decide_eq_true (List.ext_getElem? fun j => ?_)
          by_cases hj : j < k
          · have e := HE.out j hj
            rw [List.getD, List.getD, List.getElem?_eq_getElem (by rw [H1.out.len]; exact hj), List.getElem?_eq_getElem (by rw [H2.out.len]; exact hj)] at e
            rw [List.getElem?_eq_getElem (by rw [H1.out.len]; exact hj), List.getElem?_eq_getElem (by rw [H2.out.len]; exact hj)]
            exact congrArg some e
          · rw [List.getElem?_eq_none (by rw [H1.out.len]; omega), List.getElem?_eq_none (by rw [H2.out.len]; omega)]
        have HLM := Lib.hid hLM
        clear hLM
        go_wp2_with fail
        go_ret
        exact ⟨by rw [HLM.out]; rfl, HB.out⟩
  · have hLM : decide (L = M) = false := decide_eq_false fun e => hnn (by rw [← H1.out.len, ← H2.out.len, e])
    rw [hLM]
    have hq : ((n : Int) == n') = false := by simp; omega
    clear hLM hnn
    go_enter Tryd.func5, Tryd.ntmps5
    go_wp2_with fail
    go_ret
    exact ⟨rfl, Below.refl _ _⟩
end Go.Proofs.YtlmfmccbefgjgaaDoor
