/- Whether a step may be: the document's way. -/
import Derived.Test.YtnmdplefedffnaaDoorStepWord
import Derived.Test.YtnmdplefedffnaaDoorKeyGoods
namespace Go.Proofs.YtnmdplefedffnaaDoor
open Go.RowKit Go.ChangeShapes Go.WideShapes
set_option linter.unusedVariables false
set_option maxRecDepth 10000

theorem lineB_at (s : Int) (L : List Ln) (j : Nat) (x : Ln) (h : L.getD j l0 = x) : lineB s L j = (decide (x.1 < s) && decide (1 ≤ x.2) && (decide (j = 0) || decide ((L.getD (j - 1) l0).1 < x.1))) := by
  unfold lineB
  rw [h]
set_option maxHeartbeats 1000000 in
theorem rlines_any (s : Int) (p : Option Addr) (n c : Nat) (L : List Ln) (W : World) (hL : LL W p n c L) (hok : ∀ x ∈ L, Lnok x) (hn : n ≤ 1000) :
    Calls Tryd.prog 25 #[.int .i64 s, .slice p n c] W fun e w' => e = .returned (.bool (linesB s L)) ∧ Below W.heap.size W w' := by
  have HL := Lib.hid hL
  have HLN := Lib.hid hL.len
  have HOK := Lib.hid fun j (hj : j < n) => lnok_at hok (show j < L.length by rw [hL.len]; exact hj)
  have HFA := Lib.hid fun j (hj : j < n) => lines_false s L j (by rw [hL.len]; exact hj)
  have HTR := Lib.hid (lines_true s L)
  have hcap := hL.cap
  clear hL hok
  go_enter Tryd.func25, Tryd.ntmps25
  go_wp2_with fail
  go_loopw [5] (fun i wr => ∃ j : Nat, j ≤ n ∧ i = .int .i64 j ∧ Hid (Below W.heap.size W wr) ∧ Hid (∀ i, i < j → lineB s L i = true)) (fun i _ => n - (Go.RowKit.intOf i).toNat)
  case atStart => exact ⟨0, Nat.zero_le _, rfl, Lib.hid (Below.refl _ _), Lib.hid fun i hi => by omega⟩
  case round =>
    obtain ⟨j, hj, rfl, HB, HE⟩ := hrel
    by_cases hlt : j < n
    · have hlt' : (j : Int) < n := by omega
      obtain ⟨b, off, rfl, _, c0, c1⟩ := line_cells (HL.out.later HB.out) hlt
      obtain ⟨⟨hx0, hx1⟩, hx2, hx3⟩ := HOK.out j hlt
      have hfa := HFA.out j hlt
      have hlb := lineB_at s L j _ rfl
      have HPV : Hid (∀ k, k < n → wr.cell? ⟨b, off + k * 2, none⟩ = some (.int .u8 (L.getD k l0).1)) := Lib.hid fun k hk => by
        obtain ⟨b', off', he, _, d0, _⟩ := line_cells (HL.out.later HB.out) hk
        cases he
        exact d0
      generalize L.getD j l0 = x at *
      obtain ⟨a, q⟩ := x
      dsimp only at c0 c1 hx0 hx1 hx2 hx3 hlb
      have HFA1 := Lib.hid hfa
      have HLB := Lib.hid hlb
      clear hfa hlb
      have hwa : IntKind.i64.wrap a = a := IntWalk.i64_in _ (by omega)
      by_cases hs : s ≤ a
      · have hd : decide (s ≤ a) = true := decide_eq_true hs
        have HF : Hid (linesB s L = false) := Lib.hid (HFA1.out (by rw [HLB.out, decide_eq_false (by omega)]; rfl))
        clear hs
        go_wp2_with fail
        go_quiet (fail)
        go_wp2_with fail
        go_ret
        exact ⟨by rw [HF.out]; rfl, below_drewN HB.out _⟩
      have hd : decide (s ≤ a) = false := decide_eq_false hs
      have hd' : decide (a < s) = true := decide_eq_true (by omega)
      by_cases hq : q < 1
      · have hd2 : decide (q < 1) = true := decide_eq_true hq
        have HF : Hid (linesB s L = false) := Lib.hid (HFA1.out (by rw [HLB.out, decide_eq_false (show ¬ 1 ≤ q by omega), Bool.and_false]; rfl))
        clear hs hq hd'
        go_wp2_with fail
        go_quiet (fail)
        go_wp2_with fail
        go_ret
        exact ⟨by rw [HF.out]; rfl, below_drewN HB.out _⟩
      have hd2 : decide (q < 1) = false := decide_eq_false hq
      have hd2' : decide (1 ≤ q) = true := decide_eq_true (by omega)
      by_cases hj0 : j = 0
      · have hd3 : decide (0 < (j : Int)) = false := decide_eq_false (by omega)
        have hd3n : decide (0 < j) = false := decide_eq_false (by omega)
        have HT : Hid (lineB s L j = true) := Lib.hid (by rw [HLB.out, hd', hd2', decide_eq_true hj0]; rfl)
        clear hs hq hd' hd2' hj0
        go_wp2_with fail
        go_quiet (fail)
        go_wp2_with fail
        go_roundw
        case rel =>
          refine ⟨j + 1, by omega, by go_num, Lib.hid (below_drewN HB.out _), Lib.hid fun i hi => ?_⟩
          by_cases e : i = j
          · subst e; exact HT.out
          · exact HE.out i (by omega)
        case measure => simp [Go.RowKit.intOf]; omega
      obtain ⟨k, hk⟩ : ∃ k, j = k + 1 := ⟨j - 1, by omega⟩
      have d0 := HPV.out k (by omega)
      have hj1 : j - 1 = k := by omega
      have hji : (j : Int) - 1 = k := by omega
      have hd3 : decide (0 < (j : Int)) = true := decide_eq_true (by omega)
      have hd3n : decide (0 < j) = true := decide_eq_true (by omega)
      have hkn : (k : Int) < n := by omega
      rw [hj1] at HLB
      generalize (L.getD k l0).1 = y at *
      have HJ := Lib.hid hj0
      clear hj1
      by_cases hy : a ≤ y
      · have hd4 : decide (a ≤ y) = true := decide_eq_true hy
        have HF : Hid (linesB s L = false) := Lib.hid (HFA1.out (by rw [HLB.out, decide_eq_false HJ.out, decide_eq_false (show ¬ y < a by omega)]; simp))
        clear hs hq hd' hd2' hk hj0 hy
        go_wp2_with fail
        go_quiet (fail)
        go_wp2_with fail
        go_ret
        exact ⟨by rw [HF.out]; rfl, below_drewN HB.out _⟩
      · have hd4 : decide (a ≤ y) = false := decide_eq_false hy
        have HT : Hid (lineB s L j = true) := Lib.hid (by rw [HLB.out, hd', hd2', decide_eq_true (show y < a by omega)]; simp)
        clear hs hq hd' hd2' hk hj0 hy
        go_wp2_with fail
        go_quiet (fail)
        go_wp2_with fail
        go_roundw
        case rel =>
          refine ⟨j + 1, by omega, by go_num, Lib.hid (below_drewN HB.out _), Lib.hid fun i hi => ?_⟩
          by_cases e : i = j
          · subst e; exact HT.out
          · exact HE.out i (by omega)
        case measure => simp [Go.RowKit.intOf]; omega
    · obtain rfl : j = n := by omega
      have HF : Hid (linesB s L = decide ((j : Int) ≤ 3)) := Lib.hid (by
        rw [HTR.out (fun i hi => HE.out i (by rw [← HLN.out]; exact hi)), HLN.out]
        exact decide_eq_decide.2 (by omega))
      go_wp2_with fail
      go_ret
      exact ⟨by rw [HF.out]; rfl, HB.out⟩

theorem good_not (s w t r : Int) (L : List Ln) (h : sizedB s w = false ∨ ¬ (1 ≤ t ∧ t ≤ 8) ∨ L.length = 0 ∨ linesB s L = false) : goodS s w t r L = false := by
  unfold goodS
  rcases h with h | h | h | h
  · simp [h]
  · rw [decide_eq_false h]; simp
  · rw [decide_eq_false (show ¬ 1 ≤ L.length by omega)]; simp
  · simp [h]
set_option maxHeartbeats 1000000 in
theorem rgood_s (s w t r : Int) (p : Option Addr) (n c : Nat) (L : List Ln) (W : World) (hL : LL W p n c L) (hok : ∀ x ∈ L, Lnok x) (ht : 0 ≤ t ∧ t ≤ 255) (hr : 0 ≤ r ∧ r ≤ 255) (hn : n ≤ 1000) :
    Calls Tryd.prog 11 #[.int .i64 s, .int .i64 w, .agg #[.int .u8 t, .int .u8 r, .slice p n c]] W fun e w' => e = .returned (.bool (goodS s w t r L)) ∧ Below W.heap.size W w' := by
  have hb1 : Below W.heap.size W (W.alloc (.cells #[.int .u8 t, .int .u8 r, .slice p n c] 24)) := (Below.refl _ _).alloc (Nat.le_refl _) _
  have hli := rlines_any s p n c L _ (hL.later hb1) hok hn
  have HN := Lib.hid (good_not s w t r L)
  have HLN := Lib.hid hL.len
  have HB := Lib.hid hb1
  obtain ⟨ht0, ht1⟩ := ht
  obtain ⟨hr0, hr1⟩ := hr
  clear hL hok hb1
  by_cases h1 : s < 1
  · have HF := Lib.hid (HN.out (.inl (by unfold sizedB; simp; omega)))
    clear hli
    go_enter Tryd.func11, Tryd.ntmps11
    go_wp2_with fail
    go_ret
    exact ⟨by rw [HF.out]; rfl, HB.out⟩
  by_cases h2 : 4 < s
  · have HF := Lib.hid (HN.out (.inl (by unfold sizedB; simp; omega)))
    clear hli
    go_enter Tryd.func11, Tryd.ntmps11
    go_wp2_with fail
    go_ret
    exact ⟨by rw [HF.out]; rfl, HB.out⟩
  by_cases h3 : w < 1
  · have HF := Lib.hid (HN.out (.inl (by unfold sizedB; simp; omega)))
    clear hli
    go_enter Tryd.func11, Tryd.ntmps11
    go_wp2_with fail
    go_ret
    exact ⟨by rw [HF.out]; rfl, HB.out⟩
  by_cases h4 : 4 < w
  · have HF := Lib.hid (HN.out (.inl (by unfold sizedB; simp; omega)))
    clear hli
    go_enter Tryd.func11, Tryd.ntmps11
    go_wp2_with fail
    go_ret
    exact ⟨by rw [HF.out]; rfl, HB.out⟩
  by_cases h5 : t < 1
  · have HF := Lib.hid (HN.out (.inr (.inl (by omega))))
    clear hli
    go_enter Tryd.func11, Tryd.ntmps11
    go_wp2_with fail
    go_ret
    exact ⟨by rw [HF.out]; rfl, HB.out⟩
  by_cases h6 : 8 < t
  · have HF := Lib.hid (HN.out (.inr (.inl (by omega))))
    clear hli
    go_enter Tryd.func11, Tryd.ntmps11
    go_wp2_with fail
    go_ret
    exact ⟨by rw [HF.out]; rfl, HB.out⟩
  by_cases h7 : n = 0
  · have HF := Lib.hid (HN.out (.inr (.inr (.inl (by rw [HLN.out]; exact h7)))))
    subst h7
    clear hli
    go_enter Tryd.func11, Tryd.ntmps11
    go_wp2_with fail
    go_ret
    exact ⟨by rw [HF.out]; rfl, HB.out⟩
  have h7' : ((n : Int) == 0) = false := by simp; omega
  cases h8 : linesB s L with
  | false =>
    have HF := Lib.hid (HN.out (.inr (.inr (.inr h8))))
    rw [h8] at hli
    clear h8
    go_enter Tryd.func11, Tryd.ntmps11
    go_wp2_with fail
    refine hli.mono ?_
    rintro e w2 ⟨rfl, h⟩
    have HB2 := Lib.hid (HB.out.trans (h.mono HB.out.size))
    clear h hli
    go_wp2_with fail
    go_ret
    exact ⟨by rw [HF.out]; rfl, HB2.out⟩
  | true =>
    have HG : Hid (goodS s w t r L = if 7 ≤ t then decide (r = 0) else decide (r < w)) := Lib.hid (by
      unfold goodS
      rw [h8, decide_eq_true (show 1 ≤ t ∧ t ≤ 8 by omega), decide_eq_true (show 1 ≤ L.length by rw [HLN.out]; omega)]
      have : sizedB s w = true := by unfold sizedB; simp; omega
      rw [this]; rfl)
    have HX := Lib.hid (alloc_block W (.cells #[.int .u8 t, .int .u8 r, .slice p n c] 24))
    rw [h8] at hli
    clear h8
    by_cases h9 : 7 ≤ t
    · rw [if_pos h9] at HG
      go_enter Tryd.func11, Tryd.ntmps11
      go_wp2_with fail
      refine hli.mono ?_
      rintro e w2 ⟨rfl, h⟩
      have HB2 := Lib.hid (HB.out.trans (h.mono HB.out.size))
      have hx2 := block_later HX.out h
      have e0 : w2.cell? ⟨W.heap.size, 0, none⟩ = some (.int .u8 t) := block_cell hx2 rfl
      have e1 : w2.cell? ⟨W.heap.size, 1, none⟩ = some (.int .u8 r) := block_cell hx2 rfl
      clear h hli hx2
      go_wp2_with fail
      go_ret
      exact ⟨by rw [HG.out]; rfl, HB2.out⟩
    · rw [if_neg h9] at HG
      go_enter Tryd.func11, Tryd.ntmps11
      go_wp2_with fail
      refine hli.mono ?_
      rintro e w2 ⟨rfl, h⟩
      have HB2 := Lib.hid (HB.out.trans (h.mono HB.out.size))
      have hx2 := block_later HX.out h
      have e0 : w2.cell? ⟨W.heap.size, 0, none⟩ = some (.int .u8 t) := block_cell hx2 rfl
      have e1 : w2.cell? ⟨W.heap.size, 1, none⟩ = some (.int .u8 r) := block_cell hx2 rfl
      clear h hli hx2
      go_wp2_with fail
      go_ret
      exact ⟨by rw [HG.out]; rfl, HB2.out⟩
end Go.Proofs.YtnmdplefedffnaaDoor
