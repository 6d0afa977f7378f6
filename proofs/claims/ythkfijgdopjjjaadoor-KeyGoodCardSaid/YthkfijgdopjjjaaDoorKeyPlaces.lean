/- Where a key stands: the program's reckoning and the document's search. -/
import Derived.Test.YthkfijgdopjjjaaDoorKeyRefAll
namespace Go.Proofs.YthkfijgdopjjjaaDoor
open Go.RowKit Go.ChangeShapes Go.WideShapes
set_option linter.unusedVariables false

def chk2B (s w : Int) : Bool := (List.range 4).all fun a => (List.range 4).all fun b => (List.range 4).all fun c =>
  let k : K := ((a : Int) + 1, (b : Int), (c : Int)); !goodB s w k.1 k.2.1 k.2.2 || (decide ((placeI s w k).toNat < (allQ s w 5).length) && (allQ s w 5).getD (placeI s w k).toNat (0, 0, 0) == k && decide (0 ≤ placeI s w k))
theorem chk2_all : ((List.range 4).all fun (s : Nat) => (List.range 4).all fun (w : Nat) => chk2B ((s : Int) + 1) ((w : Int) + 1)) = true := by kernel_rfl
theorem good_sized {s w a b c : Int} (h : goodB s w a b c = true) : sizedB s w = true := by
  simp only [goodB, Bool.and_eq_true] at h
  exact h.1.1
theorem sized_nat {s w : Int} (h : sizedB s w = true) : ∃ m n : Nat, s = m ∧ w = n ∧ (1 ≤ m ∧ m ≤ 4) ∧ (1 ≤ n ∧ n ≤ 4) := by
  simp only [sizedB, Bool.and_eq_true, decide_eq_true_eq] at h
  exact ⟨s.toNat, w.toNat, by omega, by omega, by omega, by omega⟩
theorem good_stands (s w : Int) (k : K) (hk : Kok k) (h : goodB s w k.1 k.2.1 k.2.2 = true) : (placeI s w k).toNat < (allQ s w 5).length ∧ (allQ s w 5).getD (placeI s w k).toNat (0, 0, 0) = k ∧ 0 ≤ placeI s w k := by
  obtain ⟨m, n, rfl, rfl, hm, hn⟩ := sized_nat (good_sized h)
  obtain ⟨a, b, c⟩ := k
  have hg := h
  simp only [goodB, sizedB, Bool.and_eq_true, decide_eq_true_eq] at hg
  obtain ⟨hk1, hk2, hk3⟩ := hk
  dsimp only at hk1 hk2 hk3
  have ha : 1 ≤ a ∧ a ≤ 4 := by
    obtain ⟨_, hc⟩ := hg
    unfold widthI at hc
    repeat' split at hc
    all_goals omega
  have hw := (width_bounds a n (by omega) (by omega)).2
  have h1 := List.all_eq_true.1 (List.all_eq_true.1 chk2_all (m - 1) (List.mem_range.2 (by omega))) (n - 1) (List.mem_range.2 (by omega))
  rw [show ((m - 1 : Nat) : Int) + 1 = m by omega, show ((n - 1 : Nat) : Int) + 1 = n by omega] at h1
  have h2 := List.all_eq_true.1 (List.all_eq_true.1 (List.all_eq_true.1 h1 (a.toNat - 1) (List.mem_range.2 (by omega))) b.toNat (List.mem_range.2 (by omega))) c.toNat (List.mem_range.2 (by omega))
  rw [show ((a.toNat - 1 : Nat) : Int) + 1 = a by omega, show (b.toNat : Int) = b by omega, show (c.toNat : Int) = c by omega] at h2
  simp only [h, Bool.not_true, Bool.false_or, Bool.and_eq_true, decide_eq_true_eq, beq_iff_eq] at h2
  exact ⟨h2.1.1, h2.1.2, h2.2⟩
theorem pos_good (s w : Int) (k : K) (hk : Kok k) (x : Int) (h : PosIs (refQ s w 5) k x) (hg : goodB s w k.1 k.2.1 k.2.2 = true) : x = placeI s w k ∧ 0 ≤ placeI s w k := by
  obtain ⟨h1, h2, h3⟩ := good_stands s w k hk hg
  obtain ⟨m, n, rfl, rfl, hm, hn⟩ := sized_nat (good_sized hg)
  rw [refQ_on m n hm hn] at h
  rcases h with ⟨j, hj, rfl, hjk⟩ | ⟨rfl, hno⟩
  · have := ((chk m n hm hn).2 j hj).2.1
    rw [hjk] at this
    exact ⟨this.symm, h3⟩
  · exact absurd h2 (hno _ h1)
theorem pos_bad (s w : Int) (k : K) (x : Int) (h : PosIs (refQ s w 5) k x) (hg : goodB s w k.1 k.2.1 k.2.2 = false) : x = -1 := by
  rcases h with ⟨j, hj, rfl, hjk⟩ | ⟨rfl, _⟩
  · have hm : k ∈ refQ s w 5 := by
      rw [← hjk, List.getD, List.getElem?_eq_getElem hj]
      exact List.getElem_mem hj
    have := (refQ_mem s w 5 k hm).2.1
    rw [hg] at this
    cases this
  · rfl
theorem keyall_any (s w : Int) (W : World) : Calls Tryd.prog 15 #[.int .i64 s, .int .i64 w] W (Lists W (refQ s w 5)) := by
  cases h : sizedB s w with
  | false => rw [refQ_off s w h]; exact all_none s w h W
  | true =>
    obtain ⟨m, n, rfl, rfl, hm, hn⟩ := sized_nat h
    rw [refQ_on m n hm hn]
    exact all_some m n hm hn W
theorem keycount_any (s w : Int) (W : World) : Calls Tryd.prog 13 #[.int .i64 s, .int .i64 w] W fun e w' => e = .returned (.int .i64 ((refQ s w 5).length : Nat)) ∧ w' = W := by
  have hc := count_any s w W
  cases h : sizedB s w with
  | false => rw [h] at hc; rw [refQ_off s w h]; exact hc
  | true =>
    rw [h] at hc
    obtain ⟨m, n, rfl, rfl, hm, hn⟩ := sized_nat h
    rw [refQ_on m n hm hn, (chk m n hm hn).1]
    exact hc
theorem refQ_len (s w : Int) : (refQ s w 5).length ≤ 80 := by
  cases h : sizedB s w with
  | false => rw [refQ_off s w h]; simp
  | true =>
    obtain ⟨m, n, rfl, rfl, hm, hn⟩ := sized_nat h
    rw [refQ_on m n hm hn]
    have h1 := (chk m n hm hn).1
    have h2 := (below_bounds m n (by omega) (by omega) (by omega) (by omega) 5).2
    omega
theorem run_max (w : World) (x y : Int) (h : y = max x 0) :
    (Builtin.max_ #[3, 3] 3 #[.int .i64 x, .int .i64 0]).run Tryd.prog w = .ok (.int .i64 y) w := by
  simp [Builtin.max_, Builtin.max2]
  repeat' split
  all_goals omega
end Go.Proofs.YthkfijgdopjjjaaDoor
