/- A region that draws its order, whose calls leave old memory as it was: walked once. -/
import Derived.Test.YtnmdplefedffnaaDoorKeyAlls
import Derived.Test.YtnmdplefedffnaaDoorBase
import Derived.Deep.QuietTactic
import Derived.BigQuiet
namespace Go.Proofs.YtnmdplefedffnaaDoor
open Go.RowKit Go.ChangeShapes Go.WideShapes
set_option linter.unusedVariables false

theorem calls_after_gr {P : Program} {f : FuncId} {args : Array Value} {W : World} {v : Value} (p : After W) (h : Calls P f args p.w fun e w' => e = .returned v ∧ Gr p.w w') :
    Calls P f args p.w fun e w'' => e = .returned v ∧ ∃ q : After W, w'' = q.w := calls_after p (h.mono fun _ _ ⟨he, hb⟩ => ⟨he, hb.below⟩)
theorem key_neq (a b c x y z : Int) (w : World) : (binOp .neq 37 (.agg #[.int .u8 a, .int .u8 b, .int .u8 c]) (.agg #[.int .u8 x, .int .u8 y, .int .u8 z])).run Tryd.prog w = .ok (.bool (!decide (((a, b, c) : K) = (x, y, z)))) w := by
  by_cases h1 : a = x
  · by_cases h2 : b = y
    · by_cases h3 : c = z
      · subst h1 h2 h3
        go_simp
      · subst h1 h2
        go_simp
    · subst h1
      go_simp
  · go_simp

def canonB (k : K) : Bool := decide (1 ≤ k.1) && decide (k.1 ≤ 4) && (decide (0 ≤ k.2.1) && decide (k.2.1 ≤ 255)) && (decide (0 ≤ k.2.2) && decide (k.2.2 ≤ 255)) && (decide (k.1 < 3) || k.2.2 == 0)
def chkB (s w : Int) : Bool := ((allQ s w 5).length == (belowI s w 5).toNat) && (List.range (allQ s w 5).length).all fun j =>
  let k := (allQ s w 5).getD j (0, 0, 0); goodB s w k.1 k.2.1 k.2.2 && (placeI s w k == (j : Int)) && canonB k
theorem chk_all : ((List.range 4).all fun (s : Nat) => (List.range 4).all fun (w : Nat) => chkB ((s : Int) + 1) ((w : Int) + 1)) = true := by kernel_rfl
theorem chk (s w : Nat) (hs : 1 ≤ s ∧ s ≤ 4) (hw : 1 ≤ w ∧ w ≤ 4) : ((allQ s w 5).length : Int) = belowI s w 5 ∧ ∀ j, j < (allQ s w 5).length → goodB s w ((allQ s w 5).getD j (0, 0, 0)).1 ((allQ s w 5).getD j (0, 0, 0)).2.1 ((allQ s w 5).getD j (0, 0, 0)).2.2 = true ∧ placeI s w ((allQ s w 5).getD j (0, 0, 0)) = j ∧ Canon ((allQ s w 5).getD j (0, 0, 0)) := by
  have h := List.all_eq_true.1 (List.all_eq_true.1 chk_all (s - 1) (List.mem_range.2 (by omega))) (w - 1) (List.mem_range.2 (by omega))
  rw [show ((s - 1 : Nat) : Int) + 1 = s by omega, show ((w - 1 : Nat) : Int) + 1 = w by omega] at h
  simp only [chkB, Bool.and_eq_true, beq_iff_eq, List.all_eq_true, List.mem_range] at h
  have hb := below_bounds s w (by omega) (by omega) (by omega) (by omega) 5
  refine ⟨by omega, fun j hj => ?_⟩
  obtain ⟨⟨h1, h2⟩, h3⟩ := h.2 j hj
  refine ⟨h1, h2, ?_⟩
  simp only [canonB, Bool.and_eq_true, Bool.or_eq_true, decide_eq_true_eq, beq_iff_eq] at h3
  obtain ⟨⟨⟨⟨g1, g2⟩, g3⟩, g4⟩, g5⟩ := h3
  exact ⟨⟨g1, g2⟩, g3, g4, fun h => by rcases g5 with g5 | g5 <;> omega⟩
theorem Canon.kok {k : K} (h : Canon k) : Kok k := ⟨by have := h.1; omega, h.2.1, h.2.2.1⟩
end Go.Proofs.YtnmdplefedffnaaDoor
