/- Whether takes may be: the document's way. -/
import Derived.Test.YtdcanppiiikjgaaGreatDoorPgRow
import Derived.Test.YtdcanppiiikjgaaGreatDoorGrStepb
namespace Go.Proofs.YtdcanppiiikjgaaGreatDoor
open Go.RowKit Go.ChangeShapes Go.WideShapes
set_option linter.unusedVariables false
set_option maxRecDepth 10000

/-- The three tests of a round. -/
def tkA (s w o : Int) (x : Tk) : Bool := decide (x.1 = o) && decide (x.2.1 < s) && decide (x.2.2.1 < w) && decide (1 ≤ x.2.2.2)
def tkB (j : Nat) (x y : Tk) : Bool := decide (j = 0) || decide (y.2.2.1 < x.2.2.1) || (decide (y.2.2.1 = x.2.2.1) && decide (y.2.1 < x.2.1))
def tkC (j : Nat) (x z : Tk) : Bool := decide (j < 3) || decide (z.2.2.1 ≠ x.2.2.1)
theorem takeAt_eq (s w o : Int) (T : List Tk) (j : Nat) : takeAt s w o T j = (tkA s w o (T.getD j tk0) && tkB j (T.getD j tk0) (T.getD (j - 1) tk0) && tkC j (T.getD j tk0) (T.getD (j - 3) tk0)) := rfl
theorem prog_cells (k od po : Int) (lp : Option Addr) (ln lcp : Nat) (tp : Option Addr) (tn tcp : Nat) (wp : Option Addr) (wn wcp : Nat) (sk fr to q : Int) {w : World} {X : Nat} (hx : w.heap[X]? = some (.cells #[.int .u8 k, .int .u32 od, .int .u8 po, .slice lp ln lcp, .slice tp tn tcp, .slice wp wn wcp, .int .u8 sk, .int .u8 fr, .int .u8 to, .int .i64 q] 28 (0, 0))) :
    w.cell? ⟨X, 0, none⟩ = some (.int .u8 k) ∧ w.cell? ⟨X, 1, none⟩ = some (.int .u32 od) ∧ w.cell? ⟨X, 2, none⟩ = some (.int .u8 po) ∧ w.cell? ⟨X, 3, none⟩ = some (.slice lp ln lcp) ∧ w.cell? ⟨X, 4, none⟩ = some (.slice tp tn tcp) ∧ w.cell? ⟨X, 5, none⟩ = some (.slice wp wn wcp) ∧ w.cell? ⟨X, 6, none⟩ = some (.int .u8 sk) ∧ w.cell? ⟨X, 7, none⟩ = some (.int .u8 fr) ∧ w.cell? ⟨X, 8, none⟩ = some (.int .u8 to) ∧ w.cell? ⟨X, 9, none⟩ = some (.int .i64 q) :=
  ⟨block_cell hx rfl, block_cell hx rfl, block_cell hx rfl, block_cell hx rfl, block_cell hx rfl, block_cell hx rfl, block_cell hx rfl, block_cell hx rfl, block_cell hx rfl, block_cell hx rfl⟩
set_option maxHeartbeats 8000000 in
theorem rtakes_any (s w : Int) (k od po : Int) (lp : Option Addr) (ln lcp : Nat) (tp : Option Addr) (tn tcp : Nat) (wp : Option Addr) (wn wcp : Nat) (sk fr to q : Int) (T : List Tk) (W : World) (hT : TKL W tp tn tcp T) (hTok : ∀ x ∈ T, Tkok x) (hn : tn ≤ 1000) :
    Calls Tryz.prog 47 #[.int .i64 s, .int .i64 w, .agg #[.int .u8 k, .int .u32 od, .int .u8 po, .slice lp ln lcp, .slice tp tn tcp, .slice wp wn wcp, .int .u8 sk, .int .u8 fr, .int .u8 to, .int .i64 q]] W fun e w' => e = .returned (.bool (takesB s w od T)) ∧ Below W.heap.size W w' := by
  have hb1 : Below W.heap.size W (W.alloc (.cells #[.int .u8 k, .int .u32 od, .int .u8 po, .slice lp ln lcp, .slice tp tn tcp, .slice wp wn wcp, .int .u8 sk, .int .u8 fr, .int .u8 to, .int .i64 q] 28)) := (Below.refl _ _).alloc (Nat.le_refl _) _
  have HB1 := Lib.hid hb1
  have HT := Lib.hid (hT.later hb1)
  have HLN := Lib.hid hT.len
  have HX := Lib.hid (alloc_block W (.cells #[.int .u8 k, .int .u32 od, .int .u8 po, .slice lp ln lcp, .slice tp tn tcp, .slice wp wn wcp, .int .u8 sk, .int .u8 fr, .int .u8 to, .int .i64 q] 28))
  have HOK := Lib.hid fun j (hj : j < tn) => tkok_at hTok (show j < T.length by rw [hT.len]; exact hj)
  have HFA := Lib.hid fun j (hj : j < tn) => takes_false s w od T j (by rw [hT.len]; exact hj)
  have HTR := Lib.hid (takes_true s w od T)
  have hcap := hT.cap
  clear hT hTok hb1
  go_enter Tryz.func47, Tryz.ntmps47
  go_wp2_with fail
  generalize W.alloc (.cells #[.int .u8 k, .int .u32 od, .int .u8 po, .slice lp ln lcp, .slice tp tn tcp, .slice wp wn wcp, .int .u8 sk, .int .u8 fr, .int .u8 to, .int .i64 q] 28) = W1 at *
  go_loopw [8] (fun i wr => ∃ j : Nat, j ≤ tn ∧ i = .int .i64 j ∧ Hid (Below W1.heap.size W1 wr) ∧ Hid (∀ i, i < j → takeAt s w od T i = true)) (fun i _ => tn - (Go.RowKit.intOf i).toNat)
  case atStart => exact ⟨0, Nat.zero_le _, rfl, Lib.hid (Below.refl _ _), Lib.hid fun i hi => by omega⟩
  case round =>
    obtain ⟨j, hj, rfl, HB, HE⟩ := hrel
    by_cases hlt : j < tn
    case neg =>
      obtain rfl : j = tn := by omega
      have HF : Hid (takesB s w od T = decide ((j : Int) ≤ 12)) := Lib.hid (by
        rw [HTR.out (fun i hi => HE.out i (by rw [← HLN.out]; exact hi)), HLN.out]
        exact decide_eq_decide.2 (by omega))
      go_wp2_with fail
      go_ret
      exact ⟨by rw [HF.out]; rfl, HB1.out.trans (HB.out.mono HB1.out.size)⟩
    have hlt' : (j : Int) < tn := by omega
    have hat := takeAt_eq s w od T j
    obtain ⟨b, off, rfl, _, _⟩ := take_cells (HT.out.later HB.out) hlt
    have HTC : Hid (∀ k, k < tn → ∀ w', Below W1.heap.size W1 w' → w'.cell? ⟨b, off + k * 4, none⟩ = some (.int .u32 (T.getD k tk0).1) ∧ w'.cell? ⟨b, off + k * 4 + 1, none⟩ = some (.int .u8 (T.getD k tk0).2.1) ∧ w'.cell? ⟨b, off + k * 4 + 2, none⟩ = some (.int .u8 (T.getD k tk0).2.2.1) ∧ w'.cell? ⟨b, off + k * 4 + 3, none⟩ = some (.int .i64 (T.getD k tk0).2.2.2)) := Lib.hid fun k hk w' h => by
      obtain ⟨b', off', he, _, d0, d1, d2, d3⟩ := take_cells (HT.out.later h) hk
      cases he
      exact ⟨d0, d1, d2, d3⟩
    have HFAJ := Lib.hid (HFA.out j hlt)
    obtain ⟨⟨ho0, ho1⟩, ⟨ha0, ha1⟩, ⟨hw0, hw1⟩, hq0, hq1⟩ := HOK.out j hlt
    obtain ⟨c0, c1, c2, c3⟩ := HTC.out j hlt wr HB.out
    obtain ⟨_, e1, _, _, _, _, _, _, _, _⟩ := prog_cells _ _ _ _ _ _ _ _ _ _ _ _ _ _ _ _ (block_later HX.out HB.out)
    generalize hx : T.getD j tk0 = x at *
    generalize hy : T.getD (j - 1) tk0 = y at *
    generalize hz : T.getD (j - 3) tk0 = z at *
    obtain ⟨o, a, v, qq⟩ := x
    dsimp only at c0 c1 c2 c3 ho0 ho1 ha0 ha1 hw0 hw1 hq0 hq1
    have hwa : IntKind.i64.wrap a = a := IntWalk.i64_in _ (by omega)
    have hwv : IntKind.i64.wrap v = v := IntWalk.i64_in _ (by omega)
    have HAT := Lib.hid hat
    have HX1 := Lib.hid hx
    have HY1 := Lib.hid hy
    have HZ1 := Lib.hid hz
    clear hat hx hy hz
    by_cases h1 : o = od
    case neg =>
      have d1 : (o != od) = true := by simpa using h1
      have HF := Lib.hid (HFAJ.out (by rw [HAT.out, show tkA s w od (o, a, v, qq) = false from by unfold tkA; simp; omega]; simp))
      go_wp2_with fail
      go_quiet (fail)
      go_wp2_with fail
      go_ret
      exact ⟨by rw [HF.out]; rfl, HB1.out.trans ((below_drewN HB.out _).mono HB1.out.size)⟩
    have d1 : (o != od) = false := by simpa using h1
    by_cases h2 : s ≤ a
    case pos =>
      have d2 : decide (s ≤ a) = true := decide_eq_true h2
      have HF := Lib.hid (HFAJ.out (by rw [HAT.out, show tkA s w od (o, a, v, qq) = false from by unfold tkA; simp; omega]; simp))
      go_wp2_with fail
      go_quiet (fail)
      go_wp2_with fail
      go_ret
      exact ⟨by rw [HF.out]; rfl, HB1.out.trans ((below_drewN HB.out _).mono HB1.out.size)⟩
    have d2 : decide (s ≤ a) = false := decide_eq_false h2
    by_cases h3 : w ≤ v
    case pos =>
      have d3 : decide (w ≤ v) = true := decide_eq_true h3
      have HF := Lib.hid (HFAJ.out (by rw [HAT.out, show tkA s w od (o, a, v, qq) = false from by unfold tkA; simp; omega]; simp))
      go_wp2_with fail
      go_quiet (fail)
      go_wp2_with fail
      go_ret
      exact ⟨by rw [HF.out]; rfl, HB1.out.trans ((below_drewN HB.out _).mono HB1.out.size)⟩
    have d3 : decide (w ≤ v) = false := decide_eq_false h3
    by_cases h4 : qq < 1
    case pos =>
      have d4 : decide (qq < 1) = true := decide_eq_true h4
      have HF := Lib.hid (HFAJ.out (by rw [HAT.out, show tkA s w od (o, a, v, qq) = false from by unfold tkA; simp; omega]; simp))
      go_wp2_with fail
      go_quiet (fail)
      go_wp2_with fail
      go_ret
      exact ⟨by rw [HF.out]; rfl, HB1.out.trans ((below_drewN HB.out _).mono HB1.out.size)⟩
    have d4 : decide (qq < 1) = false := decide_eq_false h4
    have HA : Hid (tkA s w od (o, a, v, qq) = true) := Lib.hid (by unfold tkA; simp; omega)
    have hav : ¬ s ≤ a ∧ ¬ w ≤ v := ⟨h2, h3⟩
    clear h1 h2 h3 h4
    go_wp2_with fail
    go_quiet (fail)
    go_wp2_with fail
    by_cases hj0 : j = 0
    case pos =>
      have d5 : decide (0 < (j : Int)) = false := decide_eq_false (by omega)
      have d5n : decide (0 < j) = false := decide_eq_false (by omega)
      have HBT : Hid (tkB j (o, a, v, qq) y = true) := Lib.hid (by unfold tkB; rw [decide_eq_true hj0]; rfl)
      go_quiet (fail)
      go_wp2_with fail
      have d7 : decide (3 ≤ (j : Int)) = false := decide_eq_false (by omega)
      have d7n : decide (3 ≤ j) = false := decide_eq_false (by omega)
      have HCT : Hid (tkC j (o, a, v, qq) z = true) := Lib.hid (by unfold tkC; rw [decide_eq_true (show j < 3 by omega)]; rfl)
      clear hj0
      go_quiet (fail)
      go_wp2_with fail
      go_roundw
      case rel =>
        refine ⟨j + 1, by omega, by go_num, Lib.hid (by repeat (first | exact HB.out | refine below_drewN ?_ _)), Lib.hid fun i hi => ?_⟩
        by_cases e : i = j
        · subst e; rw [HAT.out, HA.out, HBT.out, HCT.out]; rfl
        · exact HE.out i (by omega)
      case measure => simp [Go.RowKit.intOf]; omega
    obtain ⟨k', hk⟩ : ∃ k, j = k + 1 := ⟨j - 1, by omega⟩
    obtain ⟨y0, y1, y2, y3⟩ := HTC.out k' (by omega) wr HB.out
    have hj1 : j - 1 = k' := by omega
    have HY2 := HY1.out
    rw [hj1] at HY2
    rw [HY2] at y0 y1 y2 y3
    have hji : (j : Int) - 1 = k' := by omega
    have hkn : (k' : Int) < tn := by omega
    have d5 : decide (0 < (j : Int)) = true := decide_eq_true (by omega)
    have d5n : decide (0 < j) = true := decide_eq_true (by omega)
    obtain ⟨yo, ya, yw, yq⟩ := y
    dsimp only at y0 y1 y2 y3
    have HJ0 := Lib.hid hj0
    clear hj1 HY2 hj0 hk
    by_cases g1 : v < yw
    case pos =>
      have d6 : decide (v < yw) = true := decide_eq_true g1
      have HF := Lib.hid (HFAJ.out (by rw [HAT.out, show tkB j (o, a, v, qq) (yo, ya, yw, yq) = false from by unfold tkB; rw [decide_eq_false HJ0.out]; simp; omega]; simp))
      go_wp2_with fail
      go_quiet (fail)
      go_wp2_with fail
      go_ret
      exact ⟨by rw [HF.out]; rfl, HB1.out.trans ((below_drewN (below_drewN HB.out _) _).mono HB1.out.size)⟩
    have d6 : decide (v < yw) = false := decide_eq_false g1
    by_cases g2 : yw = v
    case pos =>
      have d9 : (yw == v) = true := by simpa using g2
      by_cases g3 : a ≤ ya
      case pos =>
        have d10 : decide (a ≤ ya) = true := decide_eq_true g3
        have HF := Lib.hid (HFAJ.out (by rw [HAT.out, show tkB j (o, a, v, qq) (yo, ya, yw, yq) = false from by unfold tkB; rw [decide_eq_false HJ0.out]; simp; omega]; simp))
        go_wp2_with fail
        go_quiet (fail)
        go_wp2_with fail
        go_ret
        exact ⟨by rw [HF.out]; rfl, HB1.out.trans ((below_drewN (below_drewN HB.out _) _).mono HB1.out.size)⟩
      have d10 : decide (a ≤ ya) = false := decide_eq_false g3
      have HBT : Hid (tkB j (o, a, v, qq) (yo, ya, yw, yq) = true) := Lib.hid (by unfold tkB; simp; omega)
      clear g1 g2 g3
      go_quiet (fail)
      go_wp2_with fail
      by_cases h3 : j < 3
      case pos =>
        have d7 : decide (3 ≤ (j : Int)) = false := decide_eq_false (by omega)
        have d7n : decide (3 ≤ j) = false := decide_eq_false (by omega)
        have HCT : Hid (tkC j (o, a, v, qq) z = true) := Lib.hid (by unfold tkC; rw [decide_eq_true h3]; rfl)
        clear h3
        go_quiet (fail)
        go_wp2_with fail
        go_roundw
        case rel =>
          refine ⟨j + 1, by omega, by go_num, Lib.hid (by repeat (first | exact HB.out | refine below_drewN ?_ _)), Lib.hid fun i hi => ?_⟩
          by_cases e : i = j
          · subst e; rw [HAT.out, HA.out, HBT.out, HCT.out]; rfl
          · exact HE.out i (by omega)
        case measure => simp [Go.RowKit.intOf]; omega
      obtain ⟨m, hm⟩ : ∃ m, j = m + 3 := ⟨j - 3, by omega⟩
      obtain ⟨z0, z1, z2, z3⟩ := HTC.out m (by omega) wr HB.out
      have hj3 : j - 3 = m := by omega
      have HZ2 := HZ1.out
      rw [hj3] at HZ2
      rw [HZ2] at z0 z1 z2 z3
      have hji3 : (j : Int) - 3 = m := by omega
      have hmn : (m : Int) < tn := by omega
      have d7 : decide (3 ≤ (j : Int)) = true := decide_eq_true (by omega)
      have d7n : decide (3 ≤ j) = true := decide_eq_true (by omega)
      have hm3 : ¬ j < 3 := h3
      obtain ⟨zo, za, zw, zq⟩ := z
      dsimp only at z0 z1 z2 z3
      have HM3 := Lib.hid hm3
      clear hj3 HZ2 h3 hm3 hm
      by_cases g5 : zw = v
      case pos =>
        have d8 : (zw == v) = true := by simpa using g5
        have HF := Lib.hid (HFAJ.out (by rw [HAT.out, show tkC j (o, a, v, qq) (zo, za, zw, zq) = false from by unfold tkC; rw [decide_eq_false HM3.out]; simpa using g5]; simp))
        go_wp2_with fail
        go_quiet (fail)
        go_wp2_with fail
        go_ret
        exact ⟨by rw [HF.out]; rfl, HB1.out.trans ((below_drewN (below_drewN (below_drewN HB.out _) _) _).mono HB1.out.size)⟩
      have d8 : (zw == v) = false := by simpa using g5
      have HCT : Hid (tkC j (o, a, v, qq) (zo, za, zw, zq) = true) := Lib.hid (by unfold tkC; simp [g5])
      clear g5
      go_quiet (fail)
      go_wp2_with fail
      go_roundw
      case rel =>
        refine ⟨j + 1, by omega, by go_num, Lib.hid (by repeat (first | exact HB.out | refine below_drewN ?_ _)), Lib.hid fun i hi => ?_⟩
        by_cases e : i = j
        · subst e; rw [HAT.out, HA.out, HBT.out, HCT.out]; rfl
        · exact HE.out i (by omega)
      case measure => simp [Go.RowKit.intOf]; omega
    have d9 : (yw == v) = false := by simpa using g2
    have HBT : Hid (tkB j (o, a, v, qq) (yo, ya, yw, yq) = true) := Lib.hid (by unfold tkB; simp; omega)
    clear g1 g2
    go_quiet (fail)
    go_wp2_with fail
    by_cases h3 : j < 3
    case pos =>
      have d7 : decide (3 ≤ (j : Int)) = false := decide_eq_false (by omega)
      have d7n : decide (3 ≤ j) = false := decide_eq_false (by omega)
      have HCT : Hid (tkC j (o, a, v, qq) z = true) := Lib.hid (by unfold tkC; rw [decide_eq_true h3]; rfl)
      clear h3
      go_quiet (fail)
      go_wp2_with fail
      go_roundw
      case rel =>
        refine ⟨j + 1, by omega, by go_num, Lib.hid (by repeat (first | exact HB.out | refine below_drewN ?_ _)), Lib.hid fun i hi => ?_⟩
        by_cases e : i = j
        · subst e; rw [HAT.out, HA.out, HBT.out, HCT.out]; rfl
        · exact HE.out i (by omega)
      case measure => simp [Go.RowKit.intOf]; omega
    obtain ⟨m, hm⟩ : ∃ m, j = m + 3 := ⟨j - 3, by omega⟩
    obtain ⟨z0, z1, z2, z3⟩ := HTC.out m (by omega) wr HB.out
    have hj3 : j - 3 = m := by omega
    have HZ2 := HZ1.out
    rw [hj3] at HZ2
    rw [HZ2] at z0 z1 z2 z3
    have hji3 : (j : Int) - 3 = m := by omega
    have hmn : (m : Int) < tn := by omega
    have d7 : decide (3 ≤ (j : Int)) = true := decide_eq_true (by omega)
    have d7n : decide (3 ≤ j) = true := decide_eq_true (by omega)
    have hm3 : ¬ j < 3 := h3
    obtain ⟨zo, za, zw, zq⟩ := z
    dsimp only at z0 z1 z2 z3
    have HM3 := Lib.hid hm3
    clear hj3 HZ2 h3 hm3 hm
    by_cases g5 : zw = v
    case pos =>
      have d8 : (zw == v) = true := by simpa using g5
      have HF := Lib.hid (HFAJ.out (by rw [HAT.out, show tkC j (o, a, v, qq) (zo, za, zw, zq) = false from by unfold tkC; rw [decide_eq_false HM3.out]; simpa using g5]; simp))
      go_wp2_with fail
      go_quiet (fail)
      go_wp2_with fail
      go_ret
      exact ⟨by rw [HF.out]; rfl, HB1.out.trans ((below_drewN (below_drewN (below_drewN HB.out _) _) _).mono HB1.out.size)⟩
    have d8 : (zw == v) = false := by simpa using g5
    have HCT : Hid (tkC j (o, a, v, qq) (zo, za, zw, zq) = true) := Lib.hid (by unfold tkC; simp [g5])
    clear g5
    go_quiet (fail)
    go_wp2_with fail
    go_roundw
    case rel =>
      refine ⟨j + 1, by omega, by go_num, Lib.hid (by repeat (first | exact HB.out | refine below_drewN ?_ _)), Lib.hid fun i hi => ?_⟩
      by_cases e : i = j
      · subst e; rw [HAT.out, HA.out, HBT.out, HCT.out]; rfl
      · exact HE.out i (by omega)
    case measure => simp [Go.RowKit.intOf]; omega
end Go.Proofs.YtdcanppiiikjgaaGreatDoor
