/- What a step does, and what undoes it: the program's way and the document's. -/
/- Whether a step may be: the document's way. -/
/- Whether a step may be: the program's way. -/
/- Two steps, the same or not: the program's way and the document's. -/
import Derived.Test.YtdcanppiiikjgaaGreatDoorStepOne
import Derived.Test.YtdcanppiiikjgaaGreatDoorGrOp
import Derived.StillTailTactics
import Derived.Test.YtdcanppiiikjgaaGreatDoorGrStep
import Derived.Test.YtdcanppiiikjgaaGreatDoorGrKey
namespace Go.Proofs.YtdcanppiiikjgaaGreatDoor
open Go.RowKit Go.ChangeShapes Go.WideShapes
set_option linter.unusedVariables false
set_option maxRecDepth 10000

theorem item_yes (t w : Int) (x : Ln) (h : 1 ≤ x.2) : itemS t w x = oneS t w x := if_pos h
theorem item_no (t w : Int) (x : Ln) (h : ¬ 1 ≤ x.2) : itemS t w x = [] := if_neg h
theorem cells_step {w : World} {X : Nat} {t r : Int} {s : Value} (h : w.heap[X]? = some (.cells #[.int .u8 t, .int .u8 r, s] 147 (0, 0))) :
    w.cell? ⟨X, 0, none⟩ = some (.int .u8 t) ∧ w.cell? ⟨X, 1, none⟩ = some (.int .u8 r) ∧ w.cell? ⟨X, 2, none⟩ = some s := ⟨block_cell h rfl, block_cell h rfl, block_cell h rfl⟩
end Go.Proofs.YtdcanppiiikjgaaGreatDoor
namespace Go.Proofs.YtdcanppiiikjgaaGreatDoor
open Go.RowKit Go.ChangeShapes Go.WideShapes
set_option linter.unusedVariables false
set_option maxRecDepth 10000

theorem lineB_at (s : Int) (L : List Ln) (j : Nat) (x : Ln) (h : L.getD j l0 = x) : lineB s L j = (decide (x.1 < s) && decide (1 ≤ x.2) && (decide (j = 0) || decide ((L.getD (j - 1) l0).1 < x.1))) := by
  unfold lineB
  rw [h]
set_option maxHeartbeats 1000000 in
theorem rlines_any (s : Int) (p : Option Addr) (n c : Nat) (L : List Ln) (W : World) (hL : LL W p n c L) (hok : ∀ x ∈ L, Lnok x) (hn : n ≤ 1000) :
    Calls Tryz.prog 46 #[.int .i64 s, .slice p n c] W fun e w' => e = .returned (.bool (linesB s L)) ∧ Below W.heap.size W w' := by
  have HL := Lib.hid hL
  have HLN := Lib.hid hL.len
  have HOK := Lib.hid fun j (hj : j < n) => lnok_at hok (show j < L.length by rw [hL.len]; exact hj)
  have HFA := Lib.hid fun j (hj : j < n) => lines_false s L j (by rw [hL.len]; exact hj)
  have HTR := Lib.hid (lines_true s L)
  have hcap := hL.cap
  clear hL hok
  go_enter Tryz.func46, Tryz.ntmps46
  go_wp2_with fail
  go_loopw [5] (fun i wr => ∃ j : Nat, j ≤ n ∧ i = .int .i64 j ∧ Hid (Below W.heap.size W wr) ∧ Hid (∀ i, i < j → lineB s L i = true)) (fun i _ => n - (Go.RowKit.intOf i).toNat)
  case atStart => exact ⟨0, Nat.zero_le _, rfl, Lib.hid (Below.refl _ _), Lib.hid fun i hi => by omega⟩
  case round =>
    obtain ⟨j, hj, rfl, HB, HE⟩ := hrel
    by_cases hlt : j < n
    · have hlt' : (j : Int) < n := by omega
      obtain ⟨b, off, rfl, _, c0, c1⟩ := line_cells (HL.out.later HB.out) hlt
      obtain ⟨⟨hx0, hx1⟩, hx2, hx3⟩ := HOK.out j hlt
      have hfa := HFA.out j hlt
      have hlb := lineB_at s L j _ rfl
      have HPV : Hid (∀ k, k < n → wr.cell? ⟨b, off + k * 2, none⟩ = some (.int .u8 (L.getD k l0).1)) := Lib.hid fun k hk => by
        obtain ⟨b', off', he, _, d0, _⟩ := line_cells (HL.out.later HB.out) hk
        cases he
        exact d0
      generalize L.getD j l0 = x at *
      obtain ⟨a, q⟩ := x
      dsimp only at c0 c1 hx0 hx1 hx2 hx3 hlb
      have HFA1 := Lib.hid hfa
      have HLB := Lib.hid hlb
      clear hfa hlb
      have hwa : IntKind.i64.wrap a = a := IntWalk.i64_in _ (by omega)
      by_cases hs : s ≤ a
      · have hd : decide (s ≤ a) = true := decide_eq_true hs
        have HF : Hid (linesB s L = false) := Lib.hid (HFA1.out (by rw [HLB.out, decide_eq_false (by omega)]; rfl))
        clear hs
        go_wp2_with fail
        go_quiet (fail)
        go_wp2_with fail
        go_ret
        exact ⟨by rw [HF.out]; rfl, below_drewN HB.out _⟩
      have hd : decide (s ≤ a) = false := decide_eq_false hs
      have hd' : decide (a < s) = true := decide_eq_true (by omega)
      by_cases hq : q < 1
      · have hd2 : decide (q < 1) = true := decide_eq_true hq
        have HF : Hid (linesB s L = false) := Lib.hid (HFA1.out (by rw [HLB.out, decide_eq_false (show ¬ 1 ≤ q by omega), Bool.and_false]; rfl))
        clear hs hq hd'
        go_wp2_with fail
        go_quiet (fail)
        go_wp2_with fail
        go_ret
        exact ⟨by rw [HF.out]; rfl, below_drewN HB.out _⟩
      have hd2 : decide (q < 1) = false := decide_eq_false hq
      have hd2' : decide (1 ≤ q) = true := decide_eq_true (by omega)
      by_cases hj0 : j = 0
      · have hd3 : decide (0 < (j : Int)) = false := decide_eq_false (by omega)
        have hd3n : decide (0 < j) = false := decide_eq_false (by omega)
        have HT : Hid (lineB s L j = true) := Lib.hid (by rw [HLB.out, hd', hd2', decide_eq_true hj0]; rfl)
        clear hs hq hd' hd2' hj0
        go_wp2_with fail
        go_quiet (fail)
        go_wp2_with fail
        go_roundw
        case rel =>
          refine ⟨j + 1, by omega, by go_num, Lib.hid (below_drewN HB.out _), Lib.hid fun i hi => ?_⟩
          by_cases e : i = j
          · subst e; exact HT.out
          · exact HE.out i (by omega)
        case measure => simp [Go.RowKit.intOf]; omega
      obtain ⟨k, hk⟩ : ∃ k, j = k + 1 := ⟨j - 1, by omega⟩
      have d0 := HPV.out k (by omega)
      have hj1 : j - 1 = k := by omega
      have hji : (j : Int) - 1 = k := by omega
      have hd3 : decide (0 < (j : Int)) = true := decide_eq_true (by omega)
      have hd3n : decide (0 < j) = true := decide_eq_true (by omega)
      have hkn : (k : Int) < n := by omega
      rw [hj1] at HLB
      generalize (L.getD k l0).1 = y at *
      have HJ := Lib.hid hj0
      clear hj1
      by_cases hy : a ≤ y
      · have hd4 : decide (a ≤ y) = true := decide_eq_true hy
        have HF : Hid (linesB s L = false) := Lib.hid (HFA1.out (by rw [HLB.out, decide_eq_false HJ.out, decide_eq_false (show ¬ y < a by omega)]; simp))
        clear hs hq hd' hd2' hk hj0 hy
        go_wp2_with fail
        go_quiet (fail)
        go_wp2_with fail
        go_ret
        exact ⟨by rw [HF.out]; rfl, below_drewN HB.out _⟩
      · have hd4 : decide (a ≤ y) = false := decide_eq_false hy
        have HT : Hid (lineB s L j = true) := Lib.hid (by rw [HLB.out, hd', hd2', decide_eq_true (show y < a by omega)]; simp)
        clear hs hq hd' hd2' hk hj0 hy
        go_wp2_with fail
        go_quiet (fail)
        go_wp2_with fail
        go_roundw
        case rel =>
          refine ⟨j + 1, by omega, by go_num, Lib.hid (below_drewN HB.out _), Lib.hid fun i hi => ?_⟩
          by_cases e : i = j
          · subst e; exact HT.out
          · exact HE.out i (by omega)
        case measure => simp [Go.RowKit.intOf]; omega
    · obtain rfl : j = n := by omega
      have HF : Hid (linesB s L = decide ((j : Int) ≤ 3)) := Lib.hid (by
        rw [HTR.out (fun i hi => HE.out i (by rw [← HLN.out]; exact hi)), HLN.out]
        exact decide_eq_decide.2 (by omega))
      go_wp2_with fail
      go_ret
      exact ⟨by rw [HF.out]; rfl, HB.out⟩

theorem good_not (s w t r : Int) (L : List Ln) (h : sizedB s w = false ∨ ¬ (1 ≤ t ∧ t ≤ 8) ∨ L.length = 0 ∨ linesB s L = false) : goodS s w t r L = false := by
  unfold goodS
  rcases h with h | h | h | h
  · simp [h]
  · rw [decide_eq_false h]; simp
  · rw [decide_eq_false (show ¬ 1 ≤ L.length by omega)]; simp
  · simp [h]
end Go.Proofs.YtdcanppiiikjgaaGreatDoor
namespace Go.Proofs.YtdcanppiiikjgaaGreatDoor
open Go.RowKit Go.ChangeShapes Go.WideShapes
set_option linter.unusedVariables false
set_option maxRecDepth 10000

theorem step_line (W : World) (a b : Array Value) : (W.alloc (.cells a 147)).heap.size = W.heap.size + 1 := by simp
set_option maxHeartbeats 1000000 in
theorem named_any (t r : Int) (p : Option Addr) (n c : Nat) (x : Ln) (W : World) :
    Calls Tryz.prog 116 #[.agg #[.int .u8 t, .int .u8 r, .slice p n c], .agg #[.int .u8 x.1, .int .i64 x.2]] W fun e w' => e = .returned (.agg #[.int .u8 (kindS t), .int .u8 x.1, .int .u8 r]) ∧ Below W.heap.size W w' := by
  obtain ⟨s, q⟩ := x
  dsimp only
  obtain ⟨k, hk⟩ : ∃ k, kindS t = k := ⟨_, rfl⟩
  rw [hk]
  have hb3 : Below W.heap.size W (((W.alloc (.cells #[.int .u8 t, .int .u8 r, .slice p n c] 147)).alloc (.cells #[.int .u8 s, .int .i64 q] 110)).alloc (.cells #[.int .u8 k, .int .u8 s, .int .u8 r] 24)) := by
    repeat (refine Below.alloc ?_ (by simp; try omega) _)
    exact Below.refl _ _
  have ha := alloc_block ((W.alloc (.cells #[.int .u8 t, .int .u8 r, .slice p n c] 147)).alloc (.cells #[.int .u8 s, .int .i64 q] 110)) (.cells #[.int .u8 k, .int .u8 s, .int .u8 r] 24)
  simp only [World.size_alloc] at ha
  have HA := Lib.hid ha
  have HB := Lib.hid hb3
  clear ha hb3
  by_cases h7 : t = 7
  · subst h7
    obtain rfl : k = 4 := by rw [← hk]; rfl
    clear hk
    go_enter Tryz.func116, Tryz.ntmps116
    go_wp2_with fail
    refine bodyPost_ret (v := .agg #[.int .u8 4, .int .u8 s, .int .u8 r]) ?_ rfl ⟨rfl, HB.out⟩
    exact results_cell_row rfl _ _ (W.heap.size + 1 + 1) 24 _ (0, 0) _ rfl HA.out Tryz.underlying24 rfl (by kernel_rfl)
  by_cases h8 : t = 8
  · subst h8
    obtain rfl : k = 4 := by rw [← hk]; rfl
    clear hk h7
    go_enter Tryz.func116, Tryz.ntmps116
    go_wp2_with fail
    refine bodyPost_ret (v := .agg #[.int .u8 4, .int .u8 s, .int .u8 r]) ?_ rfl ⟨rfl, HB.out⟩
    exact results_cell_row rfl _ _ (W.heap.size + 1 + 1) 24 _ (0, 0) _ rfl HA.out Tryz.underlying24 rfl (by kernel_rfl)
  · obtain rfl : k = 1 := by rw [← hk]; unfold kindS; rw [if_neg (by omega)]
    have e7 : (t == 7) = false := by simpa using h7
    have e8 : (t == 8) = false := by simpa using h8
    clear hk h7 h8
    go_enter Tryz.func116, Tryz.ntmps116
    go_wp2_with fail
    refine bodyPost_ret (v := .agg #[.int .u8 1, .int .u8 s, .int .u8 r]) ?_ rfl ⟨rfl, HB.out⟩
    exact results_cell_row rfl _ _ (W.heap.size + 1 + 1) 24 _ (0, 0) _ rfl HA.out Tryz.underlying24 rfl (by kernel_rfl)

/-- What a round looks at. -/
theorem good_round {s w t r : Int} {L : List Ln} {n j : Nat} (hn : L.length = n) (hj : j < n) (h : lineB s L j = false ∨ sizedB s w = false ∨ (if 7 ≤ t then decide (r = 0) else decide (r < w)) = false) : goodS s w t r L = false := by
  rcases h with h | h | h
  · exact good_not s w t r L (.inr (.inr (.inr (lines_false s L j (by omega) h))))
  · exact good_not s w t r L (.inl h)
  · unfold goodS; rw [h]; simp
theorem good_end {s w t r : Int} {L : List Ln} {n : Nat} (hn : L.length = n) (ht : 1 ≤ t ∧ t ≤ 8) (h1 : 1 ≤ n) (h3 : n ≤ 3) (h : ∀ j, j < n → lineB s L j = true ∧ sizedB s w = true ∧ (if 7 ≤ t then decide (r = 0) else decide (r < w)) = true) : goodS s w t r L = true := by
  obtain ⟨_, hs, hw⟩ := h 0 (by omega)
  unfold goodS
  rw [hs, hw, decide_eq_true ht, decide_eq_true (show 1 ≤ L.length by omega), lines_true s L (fun j hj => (h j (by omega)).1), decide_eq_true (show L.length ≤ 3 by omega)]
  rfl
theorem word_empty (t : Int) (h0 : 0 ≤ t) : (wordB t.toNat).toList.isEmpty = !decide (1 ≤ t ∧ t ≤ 8) := by
  rw [ByteArray.toList_eq]
  by_cases h9 : t < 9
  · rcases (by omega : t = 0 ∨ t = 1 ∨ t = 2 ∨ t = 3 ∨ t = 4 ∨ t = 5 ∨ t = 6 ∨ t = 7 ∨ t = 8) with rfl | rfl | rfl | rfl | rfl | rfl | rfl | rfl | rfl <;> rfl
  · rw [decide_eq_false (by omega)]
    have hk : wordB t.toNat = ⟨#[]⟩ := by
      unfold wordB wordsL
      rw [List.getD, List.getElem?_eq_none (by simp; omega)]; rfl
    rw [hk]; rfl
set_option maxHeartbeats 2000000 in
theorem good_s (s w t r : Int) (p : Option Addr) (n c : Nat) (L : List Ln) (W : World) (hw : Words W) (hL : LL W p n c L) (hok : ∀ x ∈ L, Lnok x) (ht : 0 ≤ t ∧ t ≤ 255) (hr : 0 ≤ r ∧ r ≤ 255) (hn : n ≤ 1000) :
    Calls Tryz.prog 108 #[.int .i64 s, .int .i64 w, .agg #[.int .u8 t, .int .u8 r, .slice p n c]] W fun e w' => e = .returned (.bool (goodS s w t r L)) ∧ Below W.heap.size W w' := by
  have hb1 : Below W.heap.size W (W.alloc (.cells #[.int .u8 t, .int .u8 r, .slice p n c] 147)) := (Below.refl _ _).alloc (Nat.le_refl _) _
  have hwd := fun W hv => tagword_any t ht.1 ht.2 W hv
  have hwe := word_empty t ht.1
  have HW := Lib.hid (hw.later hb1)
  have HN := Lib.hid (good_not s w t r L)
  have HLN := Lib.hid hL.len
  have HB := Lib.hid hb1
  have HL := Lib.hid (hL.later hb1)
  have HX := Lib.hid (alloc_block W (.cells #[.int .u8 t, .int .u8 r, .slice p n c] 147))
  have HOK := Lib.hid fun j (hj : j < n) => lnok_at hok (show j < L.length by rw [hL.len]; exact hj)
  obtain ⟨ht0, ht1⟩ := ht
  obtain ⟨hr0, hr1⟩ := hr
  have hcap := hL.cap
  clear hL hok hb1 hw
  generalize wordB t.toNat = ss at *
  by_cases hg : 1 ≤ t ∧ t ≤ 8
  case neg =>
    have HF := Lib.hid (HN.out (.inr (.inl hg)))
    rw [decide_eq_false hg, Bool.not_false] at hwe
    clear hg
    go_enter Tryz.func108, Tryz.ntmps108
    go_wp2_with fail
    refine (hwd _ HW.out).mono ?_
    rintro e w' ⟨rfl, rfl⟩
    clear hwd
    go_wp2_with fail
    go_ret
    exact ⟨by rw [HF.out]; rfl, HB.out⟩
  rw [decide_eq_true hg, Bool.not_true] at hwe
  have HG := Lib.hid hg
  have HNG := Lib.hid fun x => named_good s w t r x hr0 hg
  clear hg
  by_cases h1 : n < 1
  · have HF := Lib.hid (HN.out (.inr (.inr (.inl (by rw [HLN.out]; omega)))))
    obtain rfl : n = 0 := by omega
    go_enter Tryz.func108, Tryz.ntmps108
    go_wp2_with fail
    refine (hwd _ HW.out).mono ?_
    rintro e w' ⟨rfl, rfl⟩
    clear hwd
    go_wp2_with fail
    go_ret
    exact ⟨by rw [HF.out]; rfl, HB.out⟩
  have h1n : decide (n < 1) = false := decide_eq_false h1
  have h1i : decide ((n : Int) < 1) = false := decide_eq_false (by omega)
  by_cases h3 : 3 < n
  · have HF := Lib.hid (HN.out (.inr (.inr (.inr (by unfold linesB; rw [HLN.out, decide_eq_false (show ¬ n ≤ 3 by omega), Bool.and_false])))))
    have h3n : decide (3 < n) = true := decide_eq_true h3
    have h3i : decide (3 < (n : Int)) = true := decide_eq_true (by omega)
    go_enter Tryz.func108, Tryz.ntmps108
    go_wp2_with fail
    refine (hwd _ HW.out).mono ?_
    rintro e w' ⟨rfl, rfl⟩
    clear hwd
    go_wp2_with fail
    go_ret
    exact ⟨by rw [HF.out]; rfl, HB.out⟩
  have h3n : decide (3 < n) = false := decide_eq_false h3
  have h3i : decide (3 < (n : Int)) = false := decide_eq_false (by omega)
  have H1 := Lib.hid h1
  have H3 := Lib.hid h3
  clear h1 h3
  go_enter Tryz.func108, Tryz.ntmps108
  go_wp2_with fail
  refine (hwd _ HW.out).mono ?_
  rintro e w' ⟨rfl, rfl⟩
  clear hwd HN
  go_wp2_with fail
  clear hwe h1n h1i h3n h3i
  generalize W.alloc (.cells #[.int .u8 t, .int .u8 r, .slice p n c] 147) = W1 at *
  go_loopw [28] (fun i wr => ∃ j : Nat, j ≤ n ∧ i = .int .i64 j ∧ Hid (Below W1.heap.size W1 wr) ∧ Hid (∀ i, i < j → lineB s L i = true ∧ sizedB s w = true ∧ (if 7 ≤ t then decide (r = 0) else decide (r < w)) = true)) (fun i _ => n - (Go.RowKit.intOf i).toNat)
  case atStart => exact ⟨0, Nat.zero_le _, rfl, Lib.hid (Below.refl _ _), Lib.hid fun i hi => by omega⟩
  case round =>
    obtain ⟨j, hj, rfl, HBR, HE⟩ := hrel
    by_cases hlt : j < n
    case neg =>
      obtain rfl : j = n := by omega
      have HF := Lib.hid (good_end HLN.out HG.out (by have := H1.out; omega) (by have := H3.out; omega) HE.out)
      go_wp2_with fail
      go_ret
      exact ⟨by rw [HF.out]; rfl, HB.out.trans (HBR.out.mono HB.out.size)⟩
    have hlt' : (j : Int) < n := by omega
    obtain ⟨b, off, rfl, _, c0, c1⟩ := line_cells (HL.out.later HBR.out) hlt
    obtain ⟨⟨hx0, hx1⟩, hx2, hx3⟩ := HOK.out j hlt
    have hlb := lineB_at s L j _ rfl
    have HRD := Lib.hid fun h => good_round (t := t) (r := r) (s := s) (w := w) HLN.out hlt h
    have HPV : Hid (∀ k, k < n → ∀ w', Below W1.heap.size W1 w' → w'.cell? ⟨b, off + k * 2, none⟩ = some (.int .u8 (L.getD k l0).1)) := Lib.hid fun k hk w' h => by
      obtain ⟨b', off', he, _, d0, _⟩ := line_cells (HL.out.later h) hk
      cases he
      exact d0
    generalize L.getD j l0 = x at *
    have hng := HNG.out x
    obtain ⟨a, q⟩ := x
    dsimp only at c0 c1 hx0 hx1 hx2 hx3 hlb hng
    have hnm := fun W => named_any t r (some ⟨b, off, none⟩) n c (a, q) W
    have hkg := fun W => good_any s w (kindS t) a r ⟨hx0, hx1⟩ ⟨hr0, hr1⟩ W
    rw [hng] at hkg
    have HLB := Lib.hid hlb
    clear hng hlb
    have hba : Below wr.heap.size wr (wr.alloc (.cells #[.int .u8 a, .int .i64 q] 110)) := (Below.refl _ _).alloc (Nat.le_refl _) _
    have HBA := Lib.hid (HBR.out.trans (hba.mono HBR.out.size))
    obtain ⟨e0, e1, e2⟩ := cells_step (block_later HX.out HBA.out)
    have hbl := alloc_block wr (.cells #[.int .u8 a, .int .i64 q] 110)
    have f0 : (wr.alloc (.cells #[.int .u8 a, .int .i64 q] 110)).cell? ⟨wr.heap.size, 0, none⟩ = some (.int .u8 a) := block_cell hbl rfl
    have f1 : (wr.alloc (.cells #[.int .u8 a, .int .i64 q] 110)).cell? ⟨wr.heap.size, 1, none⟩ = some (.int .i64 q) := block_cell hbl rfl
    clear hba hbl
    have HPW := Lib.hid fun k hk => HPV.out k hk _ HBA.out
    go_wp2_with fail
    clear c0 c1 HPV
    generalize wr.alloc (.cells #[.int .u8 a, .int .i64 q] 110) = Wa at *
    generalize wr.heap.size = Y at *
    by_cases hj0 : j = 0
    · have hd3 : decide (0 < (j : Int)) = false := decide_eq_false (by omega)
      have hd3n : decide (0 < j) = false := decide_eq_false (by omega)
      have HR : Hid (lineB s L j = (decide (a < s) && decide (1 ≤ q))) := Lib.hid (by rw [HLB.out, decide_eq_true hj0, Bool.true_or, Bool.and_true])
      clear hj0 HLB
      by_cases hq : q < 1
      · have hd2 : decide (q < 1) = true := decide_eq_true hq
        have HF := Lib.hid (HRD.out (.inl (by rw [HR.out, decide_eq_false (show ¬ 1 ≤ q by omega), Bool.and_false])))
        clear hq hnm hkg
        go_quiet (fail)
        go_wp2_with fail
        go_ret
        exact ⟨by rw [HF.out]; rfl, HB.out.trans ((below_drewN HBA.out _).mono HB.out.size)⟩
      have hd2 : decide (q < 1) = false := decide_eq_false hq
      have hd2' : decide (1 ≤ q) = true := decide_eq_true (by omega)
      rw [hd2', Bool.and_true] at HR
      clear hd2' hq
      generalize hwb : (if 7 ≤ t then decide (r = 0) else decide (r < w)) = wb at *
      generalize hsb : sizedB s w = sb at *
      cases hgv : (sb && decide (a < s) && wb) with
      | false =>
        have HF := Lib.hid (HRD.out (by
          rw [HR.out]
          cases h5 : decide (a < s) with
          | false => exact .inl rfl
          | true =>
            rw [h5] at hgv
            cases sb <;> cases wb <;> simp at hgv ⊢))
        rw [hgv] at hkg
        clear hgv hwb hsb
        go_quiet (fail)
        go_wp2_with fail
        refine (hnm _).mono ?_
        rintro e w3 ⟨rfl, h3⟩
        have HB3 := Lib.hid ((below_drewN HBA.out _).trans (h3.mono (below_drewN HBA.out _).size))
        clear hnm h3
        go_wp2_with fail
        refine (hkg _).mono ?_
        rintro e w4 ⟨rfl, h4⟩
        have HB4 := Lib.hid (HB3.out.trans (h4.below.mono HB3.out.size))
        clear hkg h4
        go_wp2_with fail
        go_ret
        exact ⟨by rw [HF.out]; rfl, HB.out.trans (HB4.out.mono HB.out.size)⟩
      | true =>
        have HT : Hid (lineB s L j = true ∧ sb = true ∧ wb = true) := Lib.hid (by
          rw [HR.out]
          cases h5 : decide (a < s) with
          | false => rw [h5] at hgv; cases sb <;> cases wb <;> simp at hgv
          | true =>
            rw [h5] at hgv
            cases sb <;> cases wb <;> simp at hgv ⊢)
        rw [hgv] at hkg
        have HWB := Lib.hid hwb
        have HSB := Lib.hid hsb
        clear hgv hwb hsb HRD
        go_quiet (fail)
        go_wp2_with fail
        refine (hnm _).mono ?_
        rintro e w3 ⟨rfl, h3⟩
        have HB3 := Lib.hid ((below_drewN HBA.out _).trans (h3.mono (below_drewN HBA.out _).size))
        clear hnm h3
        go_wp2_with fail
        refine (hkg _).mono ?_
        rintro e w4 ⟨rfl, h4⟩
        have HB4 := Lib.hid (HB3.out.trans (h4.below.mono HB3.out.size))
        clear hkg h4
        go_wp2_with fail
        go_roundw
        case rel =>
          refine ⟨j + 1, by omega, by go_num, HB4, Lib.hid fun i hi => ?_⟩
          rw [HSB.out, HWB.out]
          by_cases e : i = j
          · subst e; exact HT.out
          · exact HE.out i (by omega)
        case measure => simp [Go.RowKit.intOf]; omega
    obtain ⟨k, hk⟩ : ∃ k, j = k + 1 := ⟨j - 1, by omega⟩
    have d0 := HPW.out k (by omega)
    have hj1 : j - 1 = k := by omega
    have hji : (j : Int) - 1 = k := by omega
    have hd3 : decide (0 < (j : Int)) = true := decide_eq_true (by omega)
    have hd3n : decide (0 < j) = true := decide_eq_true (by omega)
    have hkn : (k : Int) < n := by omega
    rw [hj1] at HLB
    generalize (L.getD k l0).1 = y at *
    clear hj1
    by_cases hy : a ≤ y
    · have hd4 : decide (a ≤ y) = true := decide_eq_true hy
      have HF := Lib.hid (HRD.out (.inl (by rw [HLB.out, decide_eq_false hj0, decide_eq_false (show ¬ y < a by omega)]; simp)))
      clear hk hj0 hy hnm hkg
      go_quiet (fail)
      go_wp2_with fail
      go_ret
      exact ⟨by rw [HF.out]; rfl, HB.out.trans ((below_drewN HBA.out _).mono HB.out.size)⟩
    have hd4 : decide (a ≤ y) = false := decide_eq_false hy
    have HR : Hid (lineB s L j = (decide (a < s) && decide (1 ≤ q))) := Lib.hid (by rw [HLB.out, decide_eq_true (show y < a by omega), Bool.or_true, Bool.and_true])
    clear hk hj0 hy HLB
    by_cases hq : q < 1
    · have hd2 : decide (q < 1) = true := decide_eq_true hq
      have HF := Lib.hid (HRD.out (.inl (by rw [HR.out, decide_eq_false (show ¬ 1 ≤ q by omega), Bool.and_false])))
      clear hq hnm hkg
      go_quiet (fail)
      go_wp2_with fail
      go_ret
      exact ⟨by rw [HF.out]; rfl, HB.out.trans ((below_drewN HBA.out _).mono HB.out.size)⟩
    have hd2 : decide (q < 1) = false := decide_eq_false hq
    have hd2' : decide (1 ≤ q) = true := decide_eq_true (by omega)
    rw [hd2', Bool.and_true] at HR
    clear hd2' hq
    generalize hwb : (if 7 ≤ t then decide (r = 0) else decide (r < w)) = wb at *
    generalize hsb : sizedB s w = sb at *
    cases hgv : (sb && decide (a < s) && wb) with
    | false =>
      have HF := Lib.hid (HRD.out (by
        rw [HR.out]
        cases h5 : decide (a < s) with
        | false => exact .inl rfl
        | true =>
          rw [h5] at hgv
          cases sb <;> cases wb <;> simp at hgv ⊢))
      rw [hgv] at hkg
      clear hgv hwb hsb
      go_quiet (fail)
      go_wp2_with fail
      refine (hnm _).mono ?_
      rintro e w3 ⟨rfl, h3⟩
      have HB3 := Lib.hid ((below_drewN HBA.out _).trans (h3.mono (below_drewN HBA.out _).size))
      clear hnm h3
      go_wp2_with fail
      refine (hkg _).mono ?_
      rintro e w4 ⟨rfl, h4⟩
      have HB4 := Lib.hid (HB3.out.trans (h4.below.mono HB3.out.size))
      clear hkg h4
      go_wp2_with fail
      go_ret
      exact ⟨by rw [HF.out]; rfl, HB.out.trans (HB4.out.mono HB.out.size)⟩
    | true =>
      have HT : Hid (lineB s L j = true ∧ sb = true ∧ wb = true) := Lib.hid (by
        rw [HR.out]
        cases h5 : decide (a < s) with
        | false => rw [h5] at hgv; cases sb <;> cases wb <;> simp at hgv
        | true =>
          rw [h5] at hgv
          cases sb <;> cases wb <;> simp at hgv ⊢)
      rw [hgv] at hkg
      have HWB := Lib.hid hwb
      have HSB := Lib.hid hsb
      clear hgv hwb hsb HRD
      go_quiet (fail)
      go_wp2_with fail
      refine (hnm _).mono ?_
      rintro e w3 ⟨rfl, h3⟩
      have HB3 := Lib.hid ((below_drewN HBA.out _).trans (h3.mono (below_drewN HBA.out _).size))
      clear hnm h3
      go_wp2_with fail
      refine (hkg _).mono ?_
      rintro e w4 ⟨rfl, h4⟩
      have HB4 := Lib.hid (HB3.out.trans (h4.below.mono HB3.out.size))
      clear hkg h4
      go_wp2_with fail
      go_roundw
      case rel =>
        refine ⟨j + 1, by omega, by go_num, HB4, Lib.hid fun i hi => ?_⟩
        rw [HSB.out, HWB.out]
        by_cases e : i = j
        · subst e; exact HT.out
        · exact HE.out i (by omega)
      case measure => simp [Go.RowKit.intOf]; omega
end Go.Proofs.YtdcanppiiikjgaaGreatDoor
namespace Go.Proofs.YtdcanppiiikjgaaGreatDoor
open Go.RowKit Go.ChangeShapes Go.WideShapes
set_option linter.unusedVariables false
set_option maxRecDepth 10000

theorem line_neq (a z a' z' : Int) (w : World) : (binOp .neq 110 (.agg #[.int .u8 a, .int .i64 z]) (.agg #[.int .u8 a', .int .i64 z'])).run Tryz.prog w = .ok (.bool (!decide (((a, z) : Ln) = (a', z')))) w := by
  by_cases h1 : a = a'
  · by_cases h4 : z = z'
    · subst h1 h4
      go_simp
    · subst h1
      go_simp
  · go_simp
theorem lnlists_same {L M : List Ln} {n : Nat} (hL : L.length = n) (hM : M.length = n) (h : ∀ j, j < n → L.getD j l0 = M.getD j l0) : L = M := by
  apply List.ext_getElem (by omega)
  intro i h1 h2
  have := h i (by omega)
  simpa [List.getD, List.getElem?_eq_getElem h1, List.getElem?_eq_getElem h2] using this

set_option maxHeartbeats 1000000 in
theorem rsame_ln (p q : Option Addr) (n m c d : Nat) (L M : List Ln) (W : World) (hL : LL W p n c L) (hM : LL W q m d M) (hn : n ≤ 100000) (hm : m ≤ 100000) :
    Calls Tryz.prog 72 #[.slice p n c, .slice q m d] W fun e w' => e = .returned (.bool (decide (L = M))) ∧ Below W.heap.size W w' := by
  have HL := Lib.hid hL
  have HM := Lib.hid hM
  have hLl := hL.len
  have hMl := hM.len
  have HLN := Lib.hid hLl
  have HMN := Lib.hid hMl
  clear hL hM
  by_cases hnm : n = m
  · subst hnm
    have h0 : ((n : Int) != (n : Int)) = false := by simp
    have hcc := HL.out.cap
    have hcd := HM.out.cap
    clear hLl hMl
    go_enter Tryz.func72, Tryz.ntmps72
    go_wp2_with fail
    go_loopw [5] (fun i wr => ∃ j : Nat, j ≤ n ∧ i = .int .i64 j ∧ Hid (Below W.heap.size W wr) ∧ Hid (∀ i, i < j → L.getD i l0 = M.getD i l0)) (fun i _ => n - (Go.RowKit.intOf i).toNat)
    case atStart => exact ⟨0, Nat.zero_le _, rfl, Lib.hid (Below.refl _ _), Lib.hid fun i hi => by omega⟩
    case round =>
      obtain ⟨j, hj, rfl, HB, HE⟩ := hrel
      by_cases hlt : j < n
      · have hlt' : (j : Int) < n := by omega
        obtain ⟨b, off, rfl, _, c0, c1⟩ := line_cells (HL.out.later HB.out) hlt
        obtain ⟨b', off', rfl, _, d0, d1⟩ := line_cells (HM.out.later HB.out) hlt
        generalize hx : L.getD j l0 = x at *
        generalize hy : M.getD j l0 = y at *
        have HX := Lib.hid hx
        have HY := Lib.hid hy
        have hq := fun w => line_neq x.1 x.2 y.1 y.2 w
        have e1 : decide (((x.1, x.2) : Ln) = (y.1, y.2)) = decide (x = y) := rfl
        rw [e1] at hq
        clear e1 hx hy
        by_cases hxy : x = y
        · rw [decide_eq_true hxy] at hq
          have HXY := Lib.hid hxy
          clear hxy
          go_wp2_with fail
          go_quiet (fail)
          go_wp2_with fail
          go_roundw
          case rel =>
            refine ⟨j + 1, by omega, by go_num, Lib.hid (below_drewN HB.out _), Lib.hid fun i hi => ?_⟩
            by_cases e : i = j
            · subst e; rw [HX.out, HY.out, HXY.out]
            · exact HE.out i (by omega)
          case measure => simp [Go.RowKit.intOf]; omega
        · rw [decide_eq_false hxy] at hq
          have HF : Hid (decide (L = M) = false) := Lib.hid (decide_eq_false fun e => hxy (by rw [← HX.out, ← HY.out, e]))
          clear hxy
          go_wp2_with fail
          go_quiet (fail)
          go_wp2_with fail
          go_ret
          exact ⟨by rw [HF.out]; rfl, below_drewN HB.out _⟩
      · obtain rfl : j = n := by omega
        have HF : Hid (decide (L = M) = true) := Lib.hid (decide_eq_true (lnlists_same HLN.out HMN.out HE.out))
        go_wp2_with fail
        go_ret
        exact ⟨by rw [HF.out]; rfl, HB.out⟩
  · have h0 : ((n : Int) != (m : Int)) = true := by simp; omega
    have HF : Hid (decide (L = M) = false) := Lib.hid (decide_eq_false fun e => hnm (by rw [← HLN.out, ← HMN.out, e]))
    clear hLl hMl
    go_enter Tryz.func72, Tryz.ntmps72
    go_wp2_with fail
    go_ret
    exact ⟨by rw [HF.out]; rfl, Below.refl _ _⟩

set_option maxHeartbeats 1000000 in
theorem equal_ln (p q : Option Addr) (n m c d : Nat) (L M : List Ln) (W : World) (hL : LL W p n c L) (hM : LL W q m d M) (hn : n ≤ 100000) (hm : m ≤ 100000) :
    Calls Tryz.prog 76 #[.slice p n c, .slice q m d] W fun e w' => e = .returned (.bool (decide (L = M))) ∧ Below W.heap.size W w' := by
  have HL := Lib.hid hL
  have HM := Lib.hid hM
  have HLN := Lib.hid hL.len
  have HMN := Lib.hid hM.len
  clear hL hM
  by_cases hnm : n = m
  · subst hnm
    have h0 : ((n : Int) != (n : Int)) = false := by simp
    have hcc := HL.out.cap
    have hcd := HM.out.cap
    go_enter Tryz.func76, Tryz.ntmps76
    go_wp2_with fail
    go_loopw [13] (fun i wr => ∃ j : Nat, j ≤ n ∧ i = .int .i64 j ∧ Hid (Below W.heap.size W wr) ∧ Hid (∀ i, i < j → L.getD i l0 = M.getD i l0)) (fun i _ => n - (Go.RowKit.intOf i).toNat)
    case atStart => exact ⟨0, Nat.zero_le _, rfl, Lib.hid (Below.refl _ _), Lib.hid fun i hi => by omega⟩
    case round =>
      obtain ⟨j, hj, rfl, HB, HE⟩ := hrel
      by_cases hlt : j < n
      · have hlt' : (j : Int) < n := by omega
        obtain ⟨b, off, rfl, _, c0, c1⟩ := line_cells (HL.out.later HB.out) hlt
        obtain ⟨b', off', rfl, _, d0, d1⟩ := line_cells (HM.out.later HB.out) hlt
        generalize hx : L.getD j l0 = x at *
        generalize hy : M.getD j l0 = y at *
        have HX := Lib.hid hx
        have HY := Lib.hid hy
        have hq := fun w => line_neq x.1 x.2 y.1 y.2 w
        have e1 : decide (((x.1, x.2) : Ln) = (y.1, y.2)) = decide (x = y) := rfl
        rw [e1] at hq
        clear e1 hx hy
        by_cases hxy : x = y
        · rw [decide_eq_true hxy] at hq
          have HXY := Lib.hid hxy
          clear hxy
          go_wp2_with fail
          go_quiet (fail)
          go_wp2_with fail
          go_roundw
          case rel =>
            refine ⟨j + 1, by omega, by go_num, Lib.hid (below_drewN HB.out _), Lib.hid fun i hi => ?_⟩
            by_cases e : i = j
            · subst e; rw [HX.out, HY.out, HXY.out]
            · exact HE.out i (by omega)
          case measure => simp [Go.RowKit.intOf]; omega
        · rw [decide_eq_false hxy] at hq
          have HF : Hid (decide (L = M) = false) := Lib.hid (decide_eq_false fun e => hxy (by rw [← HX.out, ← HY.out, e]))
          clear hxy
          go_wp2_with fail
          go_quiet (fail)
          go_wp2_with fail
          go_ret
          exact ⟨by rw [HF.out]; rfl, below_drewN HB.out _⟩
      · obtain rfl : j = n := by omega
        have HF : Hid (decide (L = M) = true) := Lib.hid (decide_eq_true (lnlists_same HLN.out HMN.out HE.out))
        go_wp2_with fail
        go_ret
        exact ⟨by rw [HF.out]; rfl, HB.out⟩
  · have h0 : ((n : Int) != (m : Int)) = true := by simp; omega
    have HF : Hid (decide (L = M) = false) := Lib.hid (decide_eq_false fun e => hnm (by rw [← HLN.out, ← HMN.out, e]))
    go_enter Tryz.func76, Tryz.ntmps76
    go_wp2_with fail
    go_ret
    exact ⟨by rw [HF.out]; rfl, Below.refl _ _⟩

/-- Whether two steps are the same. -/
def sameS (t r t' r' : Int) (L M : List Ln) : Bool := (t == t') && (r == r') && decide (L = M)
theorem two_steps (W : World) (a b : Array Value) (A B : Array Value) (hA : A = a) (hB : B = b) : ∃ W2, (W.alloc (.cells a 147)).alloc (.cells b 147) = W2 ∧ W2.heap[W.heap.size]? = some (.cells a 147 (0, 0)) ∧ W2.heap[W.heap.size + 1]? = some (.cells b 147 (0, 0)) ∧ Below W.heap.size W W2 := by
  refine ⟨_, rfl, ?_, ?_, ((Below.refl _ _).alloc (Nat.le_refl _) _).alloc (by simp) _⟩
  · exact (Below.heap_alloc _ _ _ (by simp)).trans (alloc_block W _)
  · have := alloc_block (W.alloc (.cells a 147)) (.cells b 147)
    rwa [World.size_alloc] at this
theorem sameS_self (t r : Int) (L : List Ln) : sameS t r t r L L = true := by simp [sameS]
end Go.Proofs.YtdcanppiiikjgaaGreatDoor
