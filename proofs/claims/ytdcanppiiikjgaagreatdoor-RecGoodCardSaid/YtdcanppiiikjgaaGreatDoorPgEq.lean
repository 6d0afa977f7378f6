/- Two programs, the same or not: the document's way: the ten tests in their order. -/
import Derived.Test.YtdcanppiiikjgaaGreatDoorPgSame
namespace Go.Proofs.YtdcanppiiikjgaaGreatDoor
open Go.RowKit Go.ChangeShapes Go.WideShapes
set_option linter.unusedVariables false
set_option maxRecDepth 10000

theorem cells_two (k od po : Int) (lp : Option Addr) (ln lcp : Nat) (tp : Option Addr) (tn tcp : Nat) (wp : Option Addr) (wn wcp : Nat) (sk fr to q : Int) (k' od' po' : Int) (lp' : Option Addr) (ln' lcp' : Nat) (tp' : Option Addr) (tn' tcp' : Nat) (wp' : Option Addr) (wn' wcp' : Nat) (sk' fr' to' q' : Int) {w : World} {X Y : Nat} (hx : w.heap[X]? = some (.cells #[.int .u8 k, .int .u32 od, .int .u8 po, .slice lp ln lcp, .slice tp tn tcp, .slice wp wn wcp, .int .u8 sk, .int .u8 fr, .int .u8 to, .int .i64 q] 28 (0, 0))) (hy : w.heap[Y]? = some (.cells #[.int .u8 k', .int .u32 od', .int .u8 po', .slice lp' ln' lcp', .slice tp' tn' tcp', .slice wp' wn' wcp', .int .u8 sk', .int .u8 fr', .int .u8 to', .int .i64 q'] 28 (0, 0))) :
    w.cell? ⟨X, 0, none⟩ = some (.int .u8 k) ∧ w.cell? ⟨X, 1, none⟩ = some (.int .u32 od) ∧ w.cell? ⟨X, 2, none⟩ = some (.int .u8 po) ∧ w.cell? ⟨X, 3, none⟩ = some (.slice lp ln lcp) ∧ w.cell? ⟨X, 4, none⟩ = some (.slice tp tn tcp) ∧ w.cell? ⟨X, 5, none⟩ = some (.slice wp wn wcp) ∧ w.cell? ⟨X, 6, none⟩ = some (.int .u8 sk) ∧ w.cell? ⟨X, 7, none⟩ = some (.int .u8 fr) ∧ w.cell? ⟨X, 8, none⟩ = some (.int .u8 to) ∧ w.cell? ⟨X, 9, none⟩ = some (.int .i64 q) ∧ w.cell? ⟨Y, 0, none⟩ = some (.int .u8 k') ∧ w.cell? ⟨Y, 1, none⟩ = some (.int .u32 od') ∧ w.cell? ⟨Y, 2, none⟩ = some (.int .u8 po') ∧ w.cell? ⟨Y, 3, none⟩ = some (.slice lp' ln' lcp') ∧ w.cell? ⟨Y, 4, none⟩ = some (.slice tp' tn' tcp') ∧ w.cell? ⟨Y, 5, none⟩ = some (.slice wp' wn' wcp') ∧ w.cell? ⟨Y, 6, none⟩ = some (.int .u8 sk') ∧ w.cell? ⟨Y, 7, none⟩ = some (.int .u8 fr') ∧ w.cell? ⟨Y, 8, none⟩ = some (.int .u8 to') ∧ w.cell? ⟨Y, 9, none⟩ = some (.int .i64 q') := ⟨block_cell hx rfl, block_cell hx rfl, block_cell hx rfl, block_cell hx rfl, block_cell hx rfl, block_cell hx rfl, block_cell hx rfl, block_cell hx rfl, block_cell hx rfl, block_cell hx rfl, block_cell hy rfl, block_cell hy rfl, block_cell hy rfl, block_cell hy rfl, block_cell hy rfl, block_cell hy rfl, block_cell hy rfl, block_cell hy rfl, block_cell hy rfl, block_cell hy rfl⟩
set_option maxHeartbeats 8000000 in
theorem rsame_p (k od po : Int) (lp : Option Addr) (ln lcp : Nat) (tp : Option Addr) (tn tcp : Nat) (wp : Option Addr) (wn wcp : Nat) (sk fr to q : Int) (k' od' po' : Int) (lp' : Option Addr) (ln' lcp' : Nat) (tp' : Option Addr) (tn' tcp' : Nat) (wp' : Option Addr) (wn' wcp' : Nat) (sk' fr' to' q' : Int) (L : List Ln) (T : List Tk) (M : List Ln) (L' : List Ln) (T' : List Tk) (M' : List Ln) (W : World) (hP : PgM W lp ln lcp L tp tn tcp T wp wn wcp M) (hP' : PgM W lp' ln' lcp' L' tp' tn' tcp' T' wp' wn' wcp' M') (h1 : ln ≤ 1000 ∧ tn ≤ 1000 ∧ wn ≤ 1000) (h2 : ln' ≤ 1000 ∧ tn' ≤ 1000 ∧ wn' ≤ 1000) :
    Calls Tryz.prog 41 #[.agg #[.int .u8 k, .int .u32 od, .int .u8 po, .slice lp ln lcp, .slice tp tn tcp, .slice wp wn wcp, .int .u8 sk, .int .u8 fr, .int .u8 to, .int .i64 q], .agg #[.int .u8 k', .int .u32 od', .int .u8 po', .slice lp' ln' lcp', .slice tp' tn' tcp', .slice wp' wn' wcp', .int .u8 sk', .int .u8 fr', .int .u8 to', .int .i64 q']] W fun e w' => e = .returned (.bool (decide ((⟨k, od, po, L, T, M, sk, fr, to, q⟩ : Pg) = ⟨k', od', po', L', T', M', sk', fr', to', q'⟩))) ∧ Below W.heap.size W w' := by
  rw [prog_cases]
  obtain ⟨W2, hW2, b0, b1, hb⟩ := two_progs W #[.int .u8 k, .int .u32 od, .int .u8 po, .slice lp ln lcp, .slice tp tn tcp, .slice wp wn wcp, .int .u8 sk, .int .u8 fr, .int .u8 to, .int .i64 q] #[.int .u8 k', .int .u32 od', .int .u8 po', .slice lp' ln' lcp', .slice tp' tn' tcp', .slice wp' wn' wcp', .int .u8 sk', .int .u8 fr', .int .u8 to', .int .i64 q']
  have HW := Lib.hid hW2
  have HB := Lib.hid hb
  have HX := Lib.hid b0
  have HY := Lib.hid b1
  have HL := Lib.hid fun w (h : Below W2.heap.size W2 w) => rsame_ln lp lp' ln ln' lcp lcp' L L' w ((hP.later hb).l.later h) ((hP'.later hb).l.later h) (by omega) (by omega)
  have HT := Lib.hid fun w (h : Below W2.heap.size W2 w) => rsame_tk tp tp' tn tn' tcp tcp' T T' w ((hP.later hb).t.later h) ((hP'.later hb).t.later h) (by omega) (by omega)
  have HM := Lib.hid fun w (h : Below W2.heap.size W2 w) => rsame_ln wp wp' wn wn' wcp wcp' M M' w ((hP.later hb).o.later h) ((hP'.later hb).o.later h) (by omega) (by omega)
  have HC := Lib.hid fun w (h : Below W2.heap.size W2 w) => cells_two k od po lp ln lcp tp tn tcp wp wn wcp sk fr to q k' od' po' lp' ln' lcp' tp' tn' tcp' wp' wn' wcp' sk' fr' to' q' (block_later HX.out h) (block_later HY.out h)
  clear hP hP' h1 h2 hb b0 b1 hW2
  cases h0 : (k == k') with
  | false =>
    have HF : Hid (((k == k') && (od == od') && (po == po') && decide (L = L') && decide (T = T') && decide (M = M') && (sk == sk') && (fr == fr') && (to == to') && (q == q')) = false) := Lib.hid (by rw [h0]; simp)
    obtain ⟨a0, a1, a2, a3, a4, a5, a6, a7, a8, a9, b0, b1, b2, b3, b4, b5, b6, b7, b8, b9⟩ := HC.out W2 (Below.refl _ _)
    go_enter Tryz.func41, Tryz.ntmps41
    go_wp2_with fail
    go_ret
    rw [HW.out]
    exact ⟨by first | (rw [HF.out]; rfl) | simp, HB.out⟩
  | true =>
    cases h1 : (od == od') with
    | false =>
      have HF : Hid (((k == k') && (od == od') && (po == po') && decide (L = L') && decide (T = T') && decide (M = M') && (sk == sk') && (fr == fr') && (to == to') && (q == q')) = false) := Lib.hid (by rw [h0, h1]; simp)
      obtain ⟨a0, a1, a2, a3, a4, a5, a6, a7, a8, a9, b0, b1, b2, b3, b4, b5, b6, b7, b8, b9⟩ := HC.out W2 (Below.refl _ _)
      go_enter Tryz.func41, Tryz.ntmps41
      go_wp2_with fail
      go_ret
      rw [HW.out]
      exact ⟨by first | (rw [HF.out]; rfl) | simp, HB.out⟩
    | true =>
      cases h2 : (po == po') with
      | false =>
        have HF : Hid (((k == k') && (od == od') && (po == po') && decide (L = L') && decide (T = T') && decide (M = M') && (sk == sk') && (fr == fr') && (to == to') && (q == q')) = false) := Lib.hid (by rw [h0, h1, h2]; simp)
        obtain ⟨a0, a1, a2, a3, a4, a5, a6, a7, a8, a9, b0, b1, b2, b3, b4, b5, b6, b7, b8, b9⟩ := HC.out W2 (Below.refl _ _)
        go_enter Tryz.func41, Tryz.ntmps41
        go_wp2_with fail
        go_ret
        rw [HW.out]
        exact ⟨by first | (rw [HF.out]; rfl) | simp, HB.out⟩
      | true =>
        cases h3 : decide (L = L') with
        | false =>
          have HF : Hid (((k == k') && (od == od') && (po == po') && decide (L = L') && decide (T = T') && decide (M = M') && (sk == sk') && (fr == fr') && (to == to') && (q == q')) = false) := Lib.hid (by rw [h0, h1, h2, h3]; simp)
          obtain ⟨a0, a1, a2, a3, a4, a5, a6, a7, a8, a9, b0, b1, b2, b3, b4, b5, b6, b7, b8, b9⟩ := HC.out W2 (Below.refl _ _)
          go_enter Tryz.func41, Tryz.ntmps41
          go_wp2_with fail
          rw [HW.out]
          have hc0 := HL.out W2 (Below.refl _ _)
          rw [h3] at hc0
          refine hc0.mono ?_
          rintro e w0 ⟨rfl, hb0⟩
          have HB0 : Hid (Below W2.heap.size W2 w0) := Lib.hid (hb0)
          clear hc0 hb0 a0 a1 a2 a3 a4 a5 a6 a7 a8 a9 b0 b1 b2 b3 b4 b5 b6 b7 b8 b9
          obtain ⟨a0, a1, a2, a3, a4, a5, a6, a7, a8, a9, b0, b1, b2, b3, b4, b5, b6, b7, b8, b9⟩ := HC.out w0 HB0.out
          go_wp2_with fail
          go_ret
          exact ⟨by first | (rw [HF.out]; rfl) | simp, HB.out.trans (HB0.out.mono HB.out.size)⟩
        | true =>
          cases h4 : decide (T = T') with
          | false =>
            have HF : Hid (((k == k') && (od == od') && (po == po') && decide (L = L') && decide (T = T') && decide (M = M') && (sk == sk') && (fr == fr') && (to == to') && (q == q')) = false) := Lib.hid (by rw [h0, h1, h2, h3, h4]; simp)
            obtain ⟨a0, a1, a2, a3, a4, a5, a6, a7, a8, a9, b0, b1, b2, b3, b4, b5, b6, b7, b8, b9⟩ := HC.out W2 (Below.refl _ _)
            go_enter Tryz.func41, Tryz.ntmps41
            go_wp2_with fail
            rw [HW.out]
            have hc0 := HL.out W2 (Below.refl _ _)
            rw [h3] at hc0
            refine hc0.mono ?_
            rintro e w0 ⟨rfl, hb0⟩
            have HB0 : Hid (Below W2.heap.size W2 w0) := Lib.hid (hb0)
            clear hc0 hb0 a0 a1 a2 a3 a4 a5 a6 a7 a8 a9 b0 b1 b2 b3 b4 b5 b6 b7 b8 b9
            obtain ⟨a0, a1, a2, a3, a4, a5, a6, a7, a8, a9, b0, b1, b2, b3, b4, b5, b6, b7, b8, b9⟩ := HC.out w0 HB0.out
            go_wp2_with fail
            have hc1 := HT.out w0 HB0.out
            rw [h4] at hc1
            refine hc1.mono ?_
            rintro e w1 ⟨rfl, hb1⟩
            have HB1 : Hid (Below W2.heap.size W2 w1) := Lib.hid (HB0.out.trans (hb1.mono HB0.out.size))
            clear hc1 hb1 a0 a1 a2 a3 a4 a5 a6 a7 a8 a9 b0 b1 b2 b3 b4 b5 b6 b7 b8 b9
            obtain ⟨a0, a1, a2, a3, a4, a5, a6, a7, a8, a9, b0, b1, b2, b3, b4, b5, b6, b7, b8, b9⟩ := HC.out w1 HB1.out
            go_wp2_with fail
            go_ret
            exact ⟨by first | (rw [HF.out]; rfl) | simp, HB.out.trans (HB1.out.mono HB.out.size)⟩
          | true =>
            cases h5 : decide (M = M') with
            | false =>
              have HF : Hid (((k == k') && (od == od') && (po == po') && decide (L = L') && decide (T = T') && decide (M = M') && (sk == sk') && (fr == fr') && (to == to') && (q == q')) = false) := Lib.hid (by rw [h0, h1, h2, h3, h4, h5]; simp)
              obtain ⟨a0, a1, a2, a3, a4, a5, a6, a7, a8, a9, b0, b1, b2, b3, b4, b5, b6, b7, b8, b9⟩ := HC.out W2 (Below.refl _ _)
              go_enter Tryz.func41, Tryz.ntmps41
              go_wp2_with fail
              rw [HW.out]
              have hc0 := HL.out W2 (Below.refl _ _)
              rw [h3] at hc0
              refine hc0.mono ?_
              rintro e w0 ⟨rfl, hb0⟩
              have HB0 : Hid (Below W2.heap.size W2 w0) := Lib.hid (hb0)
              clear hc0 hb0 a0 a1 a2 a3 a4 a5 a6 a7 a8 a9 b0 b1 b2 b3 b4 b5 b6 b7 b8 b9
              obtain ⟨a0, a1, a2, a3, a4, a5, a6, a7, a8, a9, b0, b1, b2, b3, b4, b5, b6, b7, b8, b9⟩ := HC.out w0 HB0.out
              go_wp2_with fail
              have hc1 := HT.out w0 HB0.out
              rw [h4] at hc1
              refine hc1.mono ?_
              rintro e w1 ⟨rfl, hb1⟩
              have HB1 : Hid (Below W2.heap.size W2 w1) := Lib.hid (HB0.out.trans (hb1.mono HB0.out.size))
              clear hc1 hb1 a0 a1 a2 a3 a4 a5 a6 a7 a8 a9 b0 b1 b2 b3 b4 b5 b6 b7 b8 b9
              obtain ⟨a0, a1, a2, a3, a4, a5, a6, a7, a8, a9, b0, b1, b2, b3, b4, b5, b6, b7, b8, b9⟩ := HC.out w1 HB1.out
              go_wp2_with fail
              have hc2 := HM.out w1 HB1.out
              rw [h5] at hc2
              refine hc2.mono ?_
              rintro e w2 ⟨rfl, hb2⟩
              have HB2 : Hid (Below W2.heap.size W2 w2) := Lib.hid (HB1.out.trans (hb2.mono HB1.out.size))
              clear hc2 hb2 a0 a1 a2 a3 a4 a5 a6 a7 a8 a9 b0 b1 b2 b3 b4 b5 b6 b7 b8 b9
              obtain ⟨a0, a1, a2, a3, a4, a5, a6, a7, a8, a9, b0, b1, b2, b3, b4, b5, b6, b7, b8, b9⟩ := HC.out w2 HB2.out
              go_wp2_with fail
              go_ret
              exact ⟨by first | (rw [HF.out]; rfl) | simp, HB.out.trans (HB2.out.mono HB.out.size)⟩
            | true =>
              cases h6 : (sk == sk') with
              | false =>
                have HF : Hid (((k == k') && (od == od') && (po == po') && decide (L = L') && decide (T = T') && decide (M = M') && (sk == sk') && (fr == fr') && (to == to') && (q == q')) = false) := Lib.hid (by rw [h0, h1, h2, h3, h4, h5, h6]; simp)
                obtain ⟨a0, a1, a2, a3, a4, a5, a6, a7, a8, a9, b0, b1, b2, b3, b4, b5, b6, b7, b8, b9⟩ := HC.out W2 (Below.refl _ _)
                go_enter Tryz.func41, Tryz.ntmps41
                go_wp2_with fail
                rw [HW.out]
                have hc0 := HL.out W2 (Below.refl _ _)
                rw [h3] at hc0
                refine hc0.mono ?_
                rintro e w0 ⟨rfl, hb0⟩
                have HB0 : Hid (Below W2.heap.size W2 w0) := Lib.hid (hb0)
                clear hc0 hb0 a0 a1 a2 a3 a4 a5 a6 a7 a8 a9 b0 b1 b2 b3 b4 b5 b6 b7 b8 b9
                obtain ⟨a0, a1, a2, a3, a4, a5, a6, a7, a8, a9, b0, b1, b2, b3, b4, b5, b6, b7, b8, b9⟩ := HC.out w0 HB0.out
                go_wp2_with fail
                have hc1 := HT.out w0 HB0.out
                rw [h4] at hc1
                refine hc1.mono ?_
                rintro e w1 ⟨rfl, hb1⟩
                have HB1 : Hid (Below W2.heap.size W2 w1) := Lib.hid (HB0.out.trans (hb1.mono HB0.out.size))
                clear hc1 hb1 a0 a1 a2 a3 a4 a5 a6 a7 a8 a9 b0 b1 b2 b3 b4 b5 b6 b7 b8 b9
                obtain ⟨a0, a1, a2, a3, a4, a5, a6, a7, a8, a9, b0, b1, b2, b3, b4, b5, b6, b7, b8, b9⟩ := HC.out w1 HB1.out
                go_wp2_with fail
                have hc2 := HM.out w1 HB1.out
                rw [h5] at hc2
                refine hc2.mono ?_
                rintro e w2 ⟨rfl, hb2⟩
                have HB2 : Hid (Below W2.heap.size W2 w2) := Lib.hid (HB1.out.trans (hb2.mono HB1.out.size))
                clear hc2 hb2 a0 a1 a2 a3 a4 a5 a6 a7 a8 a9 b0 b1 b2 b3 b4 b5 b6 b7 b8 b9
                obtain ⟨a0, a1, a2, a3, a4, a5, a6, a7, a8, a9, b0, b1, b2, b3, b4, b5, b6, b7, b8, b9⟩ := HC.out w2 HB2.out
                go_wp2_with fail
                go_ret
                exact ⟨by first | (rw [HF.out]; rfl) | simp, HB.out.trans (HB2.out.mono HB.out.size)⟩
              | true =>
                cases h7 : (fr == fr') with
                | false =>
                  have HF : Hid (((k == k') && (od == od') && (po == po') && decide (L = L') && decide (T = T') && decide (M = M') && (sk == sk') && (fr == fr') && (to == to') && (q == q')) = false) := Lib.hid (by rw [h0, h1, h2, h3, h4, h5, h6, h7]; simp)
                  obtain ⟨a0, a1, a2, a3, a4, a5, a6, a7, a8, a9, b0, b1, b2, b3, b4, b5, b6, b7, b8, b9⟩ := HC.out W2 (Below.refl _ _)
                  go_enter Tryz.func41, Tryz.ntmps41
                  go_wp2_with fail
                  rw [HW.out]
                  have hc0 := HL.out W2 (Below.refl _ _)
                  rw [h3] at hc0
                  refine hc0.mono ?_
                  rintro e w0 ⟨rfl, hb0⟩
                  have HB0 : Hid (Below W2.heap.size W2 w0) := Lib.hid (hb0)
                  clear hc0 hb0 a0 a1 a2 a3 a4 a5 a6 a7 a8 a9 b0 b1 b2 b3 b4 b5 b6 b7 b8 b9
                  obtain ⟨a0, a1, a2, a3, a4, a5, a6, a7, a8, a9, b0, b1, b2, b3, b4, b5, b6, b7, b8, b9⟩ := HC.out w0 HB0.out
                  go_wp2_with fail
                  have hc1 := HT.out w0 HB0.out
                  rw [h4] at hc1
                  refine hc1.mono ?_
                  rintro e w1 ⟨rfl, hb1⟩
                  have HB1 : Hid (Below W2.heap.size W2 w1) := Lib.hid (HB0.out.trans (hb1.mono HB0.out.size))
                  clear hc1 hb1 a0 a1 a2 a3 a4 a5 a6 a7 a8 a9 b0 b1 b2 b3 b4 b5 b6 b7 b8 b9
                  obtain ⟨a0, a1, a2, a3, a4, a5, a6, a7, a8, a9, b0, b1, b2, b3, b4, b5, b6, b7, b8, b9⟩ := HC.out w1 HB1.out
                  go_wp2_with fail
                  have hc2 := HM.out w1 HB1.out
                  rw [h5] at hc2
                  refine hc2.mono ?_
                  rintro e w2 ⟨rfl, hb2⟩
                  have HB2 : Hid (Below W2.heap.size W2 w2) := Lib.hid (HB1.out.trans (hb2.mono HB1.out.size))
                  clear hc2 hb2 a0 a1 a2 a3 a4 a5 a6 a7 a8 a9 b0 b1 b2 b3 b4 b5 b6 b7 b8 b9
                  obtain ⟨a0, a1, a2, a3, a4, a5, a6, a7, a8, a9, b0, b1, b2, b3, b4, b5, b6, b7, b8, b9⟩ := HC.out w2 HB2.out
                  go_wp2_with fail
                  go_ret
                  exact ⟨by first | (rw [HF.out]; rfl) | simp, HB.out.trans (HB2.out.mono HB.out.size)⟩
                | true =>
                  cases h8 : (to == to') with
                  | false =>
                    have HF : Hid (((k == k') && (od == od') && (po == po') && decide (L = L') && decide (T = T') && decide (M = M') && (sk == sk') && (fr == fr') && (to == to') && (q == q')) = false) := Lib.hid (by rw [h0, h1, h2, h3, h4, h5, h6, h7, h8]; simp)
                    obtain ⟨a0, a1, a2, a3, a4, a5, a6, a7, a8, a9, b0, b1, b2, b3, b4, b5, b6, b7, b8, b9⟩ := HC.out W2 (Below.refl _ _)
                    go_enter Tryz.func41, Tryz.ntmps41
                    go_wp2_with fail
                    rw [HW.out]
                    have hc0 := HL.out W2 (Below.refl _ _)
                    rw [h3] at hc0
                    refine hc0.mono ?_
                    rintro e w0 ⟨rfl, hb0⟩
                    have HB0 : Hid (Below W2.heap.size W2 w0) := Lib.hid (hb0)
                    clear hc0 hb0 a0 a1 a2 a3 a4 a5 a6 a7 a8 a9 b0 b1 b2 b3 b4 b5 b6 b7 b8 b9
                    obtain ⟨a0, a1, a2, a3, a4, a5, a6, a7, a8, a9, b0, b1, b2, b3, b4, b5, b6, b7, b8, b9⟩ := HC.out w0 HB0.out
                    go_wp2_with fail
                    have hc1 := HT.out w0 HB0.out
                    rw [h4] at hc1
                    refine hc1.mono ?_
                    rintro e w1 ⟨rfl, hb1⟩
                    have HB1 : Hid (Below W2.heap.size W2 w1) := Lib.hid (HB0.out.trans (hb1.mono HB0.out.size))
                    clear hc1 hb1 a0 a1 a2 a3 a4 a5 a6 a7 a8 a9 b0 b1 b2 b3 b4 b5 b6 b7 b8 b9
                    obtain ⟨a0, a1, a2, a3, a4, a5, a6, a7, a8, a9, b0, b1, b2, b3, b4, b5, b6, b7, b8, b9⟩ := HC.out w1 HB1.out
                    go_wp2_with fail
                    have hc2 := HM.out w1 HB1.out
                    rw [h5] at hc2
                    refine hc2.mono ?_
                    rintro e w2 ⟨rfl, hb2⟩
                    have HB2 : Hid (Below W2.heap.size W2 w2) := Lib.hid (HB1.out.trans (hb2.mono HB1.out.size))
                    clear hc2 hb2 a0 a1 a2 a3 a4 a5 a6 a7 a8 a9 b0 b1 b2 b3 b4 b5 b6 b7 b8 b9
                    obtain ⟨a0, a1, a2, a3, a4, a5, a6, a7, a8, a9, b0, b1, b2, b3, b4, b5, b6, b7, b8, b9⟩ := HC.out w2 HB2.out
                    go_wp2_with fail
                    go_ret
                    exact ⟨by first | (rw [HF.out]; rfl) | simp, HB.out.trans (HB2.out.mono HB.out.size)⟩
                  | true =>
                    cases h9 : (q == q') with
                    | false =>
                      have HF : Hid (((k == k') && (od == od') && (po == po') && decide (L = L') && decide (T = T') && decide (M = M') && (sk == sk') && (fr == fr') && (to == to') && (q == q')) = false) := Lib.hid (by rw [h0, h1, h2, h3, h4, h5, h6, h7, h8, h9]; simp)
                      obtain ⟨a0, a1, a2, a3, a4, a5, a6, a7, a8, a9, b0, b1, b2, b3, b4, b5, b6, b7, b8, b9⟩ := HC.out W2 (Below.refl _ _)
                      go_enter Tryz.func41, Tryz.ntmps41
                      go_wp2_with fail
                      rw [HW.out]
                      have hc0 := HL.out W2 (Below.refl _ _)
                      rw [h3] at hc0
                      refine hc0.mono ?_
                      rintro e w0 ⟨rfl, hb0⟩
                      have HB0 : Hid (Below W2.heap.size W2 w0) := Lib.hid (hb0)
                      clear hc0 hb0 a0 a1 a2 a3 a4 a5 a6 a7 a8 a9 b0 b1 b2 b3 b4 b5 b6 b7 b8 b9
                      obtain ⟨a0, a1, a2, a3, a4, a5, a6, a7, a8, a9, b0, b1, b2, b3, b4, b5, b6, b7, b8, b9⟩ := HC.out w0 HB0.out
                      go_wp2_with fail
                      have hc1 := HT.out w0 HB0.out
                      rw [h4] at hc1
                      refine hc1.mono ?_
                      rintro e w1 ⟨rfl, hb1⟩
                      have HB1 : Hid (Below W2.heap.size W2 w1) := Lib.hid (HB0.out.trans (hb1.mono HB0.out.size))
                      clear hc1 hb1 a0 a1 a2 a3 a4 a5 a6 a7 a8 a9 b0 b1 b2 b3 b4 b5 b6 b7 b8 b9
                      obtain ⟨a0, a1, a2, a3, a4, a5, a6, a7, a8, a9, b0, b1, b2, b3, b4, b5, b6, b7, b8, b9⟩ := HC.out w1 HB1.out
                      go_wp2_with fail
                      have hc2 := HM.out w1 HB1.out
                      rw [h5] at hc2
                      refine hc2.mono ?_
                      rintro e w2 ⟨rfl, hb2⟩
                      have HB2 : Hid (Below W2.heap.size W2 w2) := Lib.hid (HB1.out.trans (hb2.mono HB1.out.size))
                      clear hc2 hb2 a0 a1 a2 a3 a4 a5 a6 a7 a8 a9 b0 b1 b2 b3 b4 b5 b6 b7 b8 b9
                      obtain ⟨a0, a1, a2, a3, a4, a5, a6, a7, a8, a9, b0, b1, b2, b3, b4, b5, b6, b7, b8, b9⟩ := HC.out w2 HB2.out
                      go_wp2_with fail
                      go_ret
                      exact ⟨by first | (rw [HF.out]; rfl) | simp, HB.out.trans (HB2.out.mono HB.out.size)⟩
                    | true =>
                      have HF : Hid (((k == k') && (od == od') && (po == po') && decide (L = L') && decide (T = T') && decide (M = M') && (sk == sk') && (fr == fr') && (to == to') && (q == q')) = true) := Lib.hid (by rw [h0, h1, h2, h3, h4, h5, h6, h7, h8, h9]; rfl)
                      obtain ⟨a0, a1, a2, a3, a4, a5, a6, a7, a8, a9, b0, b1, b2, b3, b4, b5, b6, b7, b8, b9⟩ := HC.out W2 (Below.refl _ _)
                      go_enter Tryz.func41, Tryz.ntmps41
                      go_wp2_with fail
                      rw [HW.out]
                      have hc0 := HL.out W2 (Below.refl _ _)
                      rw [h3] at hc0
                      refine hc0.mono ?_
                      rintro e w0 ⟨rfl, hb0⟩
                      have HB0 : Hid (Below W2.heap.size W2 w0) := Lib.hid (hb0)
                      clear hc0 hb0 a0 a1 a2 a3 a4 a5 a6 a7 a8 a9 b0 b1 b2 b3 b4 b5 b6 b7 b8 b9
                      obtain ⟨a0, a1, a2, a3, a4, a5, a6, a7, a8, a9, b0, b1, b2, b3, b4, b5, b6, b7, b8, b9⟩ := HC.out w0 HB0.out
                      go_wp2_with fail
                      have hc1 := HT.out w0 HB0.out
                      rw [h4] at hc1
                      refine hc1.mono ?_
                      rintro e w1 ⟨rfl, hb1⟩
                      have HB1 : Hid (Below W2.heap.size W2 w1) := Lib.hid (HB0.out.trans (hb1.mono HB0.out.size))
                      clear hc1 hb1 a0 a1 a2 a3 a4 a5 a6 a7 a8 a9 b0 b1 b2 b3 b4 b5 b6 b7 b8 b9
                      obtain ⟨a0, a1, a2, a3, a4, a5, a6, a7, a8, a9, b0, b1, b2, b3, b4, b5, b6, b7, b8, b9⟩ := HC.out w1 HB1.out
                      go_wp2_with fail
                      have hc2 := HM.out w1 HB1.out
                      rw [h5] at hc2
                      refine hc2.mono ?_
                      rintro e w2 ⟨rfl, hb2⟩
                      have HB2 : Hid (Below W2.heap.size W2 w2) := Lib.hid (HB1.out.trans (hb2.mono HB1.out.size))
                      clear hc2 hb2 a0 a1 a2 a3 a4 a5 a6 a7 a8 a9 b0 b1 b2 b3 b4 b5 b6 b7 b8 b9
                      obtain ⟨a0, a1, a2, a3, a4, a5, a6, a7, a8, a9, b0, b1, b2, b3, b4, b5, b6, b7, b8, b9⟩ := HC.out w2 HB2.out
                      go_wp2_with fail
                      go_ret
                      exact ⟨by first | (rw [HF.out]; rfl) | simp, HB.out.trans (HB2.out.mono HB.out.size)⟩
end Go.Proofs.YtdcanppiiikjgaaGreatDoor
