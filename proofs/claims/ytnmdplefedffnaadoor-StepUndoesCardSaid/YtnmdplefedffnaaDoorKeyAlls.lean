/- All keys, as the program lists them. -/
import Derived.Test.YtnmdplefedffnaaDoorKeyRow
import Derived.Deep.LoopGhost
namespace Go.Proofs.YtnmdplefedffnaaDoor
open Go.RowKit Go.ChangeShapes Go.WideShapes
set_option linter.unusedVariables false

def colL (a b : Int) (m : Nat) : List K := (List.range m).map fun (c : Nat) => (a, b, (c : Int))
def skuL (w a : Int) (m : Nat) : List K := (List.range m).flatMap fun (b : Nat) => colL a b (widthI a w).toNat
def allQ (s w : Int) (l : Nat) : List K := (List.range l).flatMap fun (a : Nat) => skuL w a s.toNat
theorem col_succ (a b : Int) (m : Nat) : colL a b (m + 1) = colL a b m ++ [(a, b, (m : Int))] := by simp [colL, List.range_succ]
theorem sku_succ (w a : Int) (m : Nat) : skuL w a (m + 1) = skuL w a m ++ colL a m (widthI a w).toNat := by simp [skuL, List.range_succ]
theorem all_succ (s w : Int) (l : Nat) : allQ s w (l + 1) = allQ s w l ++ skuL w l s.toNat := by simp [allQ, List.range_succ]
theorem sku_none (w : Int) (m : Nat) : skuL w 0 m = [] := by
  have h : (widthI 0 w).toNat = 0 := by simp [widthI]
  simp [skuL, h, colL]
theorem all_one (s w : Int) : allQ s w 1 = [] := by
  rw [all_succ, show allQ s w 0 = [] from rfl]
  exact sku_none w _
theorem all_ok (s w : Int) (h : sizedB s w = true) : ∀ k ∈ allQ s w 5, Kok k := by
  simp only [sizedB, Bool.and_eq_true, decide_eq_true_eq] at h
  intro k hk
  simp only [allQ, skuL, colL, List.mem_flatMap, List.mem_map, List.mem_range] at hk
  obtain ⟨a, ha, b, hb, c, hc, rfl⟩ := hk
  have := width_bounds a w (by omega) (by omega)
  unfold Kok
  dsimp only
  omega
/-- The row that the call is filling holds L, at most N keys. -/
structure Fill (W wr : World) (v : Value) (L : List K) (N : Nat) : Prop where
  own : wr.ownsRow W.heap.size 37 3 v L.length (kL L)
  below : Below W.heap.size W wr
  most : L.length ≤ N
theorem Fill.step {W wr w' : World} {v v' : Value} {L : List K} {N : Nat} {k : K} (h : Fill W wr v L N) (o : Obj) (h1 : w'.ownsRow W.heap.size 37 3 v' (L.length + 1) (kL (L ++ [k]))) (h2 : (wr.alloc o).grownBy w' v.ownBlock) : Fill W w' v' (L ++ [k]) (N + 1) := by
  refine ⟨by simpa using h1, (h.below.alloc h.below.size o).grown h2 ?_ fun j hj => (h.own.lt j hj).1, ?_⟩
  · have := h.below.size
    simp
    omega
  · have := h.most
    simp
    omega
theorem Fill.later {W wr w' : World} {v : Value} {L : List K} {N : Nat} (h : Fill W wr v L N) (hb : Below wr.heap.size wr w') : Fill W w' v L N := by
  refine ⟨⟨h.own.1, ?_⟩, h.below.trans (hb.mono h.below.size), h.most⟩
  rcases h.own.2 with hn | ⟨g, cap, cur, rfl, h1, h2, h3⟩
  · exact .inl hn
  · exact .inr ⟨g, cap, cur, rfl, h1, block_later h2 hb, h3⟩
theorem Fill.mono {W wr : World} {v : Value} {L : List K} {N M : Nat} (h : Fill W wr v L N) (hn : N ≤ M) : Fill W wr v L M := ⟨h.own, h.below, Nat.le_trans h.most hn⟩

/-- A call that hands back the keys L. -/
def Lists (W : World) (L : List K) (e : Ending) (w' : World) : Prop := ∃ p c, e = .returned (.slice p L.length c) ∧ KL w' p L.length c L ∧ Below W.heap.size W w'
theorem Fill.lists {W wr : World} {v : Value} {L : List K} {N : Nat} (h : Fill W wr v L N) (hok : ∀ k ∈ L, Kok k) : Lists W L (.returned v) wr := by
  obtain ⟨p, c, rfl, hk⟩ := KL.of_own h.own hok
  exact ⟨p, c, rfl, hk, h.below⟩
end Go.Proofs.YtnmdplefedffnaaDoor
