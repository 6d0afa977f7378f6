/- Whether a program may be: the program's way. -/
import Derived.Test.YtdcanppiiikjgaaGreatDoorPgStock
import Derived.Test.YtdcanppiiikjgaaGreatDoorGrProgj
namespace Go.Proofs.YtdcanppiiikjgaaGreatDoor
open Go.RowKit Go.ChangeShapes Go.WideShapes
set_option linter.unusedVariables false
set_option linter.unusedSimpArgs false
set_option maxRecDepth 10000

set_option maxHeartbeats 8000000 in
theorem good1_p (s w : Int) (od po : Int) (lp : Option Addr) (ln lcp : Nat) (tp : Option Addr) (tn tcp : Nat) (wp : Option Addr) (wn wcp : Nat) (sk fr to q : Int) (L : List Ln) (T : List Tk) (M : List Ln) (W : World) (hs : sizedB s w = true) (hw : Words W) (hP : PgM W lp ln lcp L tp tn tcp T wp wn wcp M) (hok : Pgok ⟨1, od, po, L, T, M, sk, fr, to, q⟩) (h1 : ln ≤ 400 ∧ tn ≤ 400 ∧ wn ≤ 400) :
    Calls Tryz.prog 45 #[.int .i64 s, .int .i64 w, .agg #[.int .u8 1, .int .u32 od, .int .u8 po, .slice lp ln lcp, .slice tp tn tcp, .slice wp wn wcp, .int .u8 sk, .int .u8 fr, .int .u8 to, .int .i64 q]] W fun e w' => e = .returned (.bool (goodP s w ⟨1, od, po, L, T, M, sk, fr, to, q⟩)) ∧ Below W.heap.size W w' := by
  have hg : goodP s w ⟨1, od, po, L, T, M, sk, fr, to, q⟩ = ((decide (od ≠ 0) && decide (po ≤ 1) && decide (1 ≤ L.length) && linesB s L && takesB s w od T && linesB s M && coverB T M L && (decide (po = 0) || decide (M.length = 0))) && decide ((⟨1, od, po, L, T, M, sk, fr, to, q⟩ : Pg) = ⟨1, od, po, L, T, M, 0, 0, 0, 0⟩)) := by
    unfold goodP
    rw [hs, Bool.true_and, ask1, qof1]
  have hs4 : 1 ≤ s ∧ s ≤ 4 ∧ 1 ≤ w ∧ w ≤ 4 := by
    unfold sizedB at hs
    simp only [Bool.and_eq_true, decide_eq_true_eq] at hs
    omega
  obtain ⟨hs1, hs2, hs3, hs4⟩ := hs4
  have h2 : ln ≤ 1000 ∧ tn ≤ 1000 ∧ wn ≤ 1000 := ⟨by omega, by omega, by omega⟩
  obtain ⟨W2, hW2, hbx, hb2⟩ : ∃ W2, W.alloc (.cells #[.int .u8 1, .int .u32 od, .int .u8 po, .slice lp ln lcp, .slice tp tn tcp, .slice wp wn wcp, .int .u8 sk, .int .u8 fr, .int .u8 to, .int .i64 q] 28) = W2 ∧ W2.heap[W.heap.size]? = some (.cells #[.int .u8 1, .int .u32 od, .int .u8 po, .slice lp ln lcp, .slice tp tn tcp, .slice wp wn wcp, .int .u8 sk, .int .u8 fr, .int .u8 to, .int .i64 q] 28 (0, 0)) ∧ Below W.heap.size W W2 := ⟨_, rfl, alloc_block W _, (Below.refl _ _).alloc (Nat.le_refl _) _⟩
  have HW2 := Lib.hid hW2
  have HB2 := Lib.hid hb2
  have HX2 := Lib.hid hbx
  have hj : ∀ w', Below W2.heap.size W2 w' → _ := fun w' h => just_p 1 od po lp ln lcp tp tn tcp wp wn wcp sk fr to q 0 od po lp ln lcp tp tn tcp wp wn wcp 0 0 0 0 L T M L T M w' ((hP.later hb2).later h) (have hP := (hP.later hb2).later h; hP) h2 h2
  have hq : ∀ w', Below W2.heap.size W2 w' → _ := fun w' h => goodplace_any s w 1 od po lp ln lcp tp tn tcp wp wn wcp sk fr to q L T M w' ((hw.later hb2).later h) ((hP.later hb2).later h) hok hs1 hs2 hs3 hs4 h1
  rw [hg]
  generalize (decide (od ≠ 0) && decide (po ≤ 1) && decide (1 ≤ L.length) && linesB s L && takesB s w od T && linesB s M && coverB T M L && (decide (po = 0) || decide (M.length = 0))) = ex at *
  generalize decide ((⟨1, od, po, L, T, M, sk, fr, to, q⟩ : Pg) = ⟨1, od, po, L, T, M, 0, 0, 0, 0⟩) = dd at *
  have HJ := Lib.hid hj
  have HQ := Lib.hid hq
  have y1 : decide (s < 1) = false := decide_eq_false (by omega)
  have y2 : decide (4 < s) = false := decide_eq_false (by omega)
  have y3 : decide (w < 1) = false := decide_eq_false (by omega)
  have y4 : decide (4 < w) = false := decide_eq_false (by omega)
  clear hg hW2 hb2 hbx hj hq hP hok hw hs h1 h2
  obtain ⟨a0, a1, a2, a3, a4, a5, a6, a7, a8, a9⟩ := prog_cells 1 od po lp ln lcp tp tn tcp wp wn wcp sk fr to q HX2.out
  go_enter Tryz.func45, Tryz.ntmps45
  go_wp2_with fail
  rw [HW2.out]
  refine (HJ.out W2 (Below.refl _ _)).mono ?_
  rintro e w0 ⟨rfl, hb⟩
  have HB3 := Lib.hid hb
  clear hb a0 a1 a2 a3 a4 a5 a6 a7 a8 a9
  obtain ⟨a0, a1, a2, a3, a4, a5, a6, a7, a8, a9⟩ := prog_cells 1 od po lp ln lcp tp tn tcp wp wn wcp sk fr to q (block_later HX2.out HB3.out)
  cases dd with
  | false =>
    go_wp2_with fail
    go_ret
    exact ⟨by rw [Bool.and_false]; rfl, HB2.out.trans (HB3.out.mono HB2.out.size)⟩
  | true =>
    go_wp2_with fail
    refine (HQ.out w0 HB3.out).mono ?_
    rintro e w1 ⟨rfl, hb⟩
    have HB4 := Lib.hid (HB3.out.trans (hb.mono HB3.out.size))
    clear hb a0 a1 a2 a3 a4 a5 a6 a7 a8 a9
    go_wp2_with fail
    go_ret
    exact ⟨by rw [Bool.and_true]; rfl, HB2.out.trans (HB4.out.mono HB2.out.size)⟩
set_option maxHeartbeats 8000000 in
theorem good2_p (s w : Int) (od po : Int) (lp : Option Addr) (ln lcp : Nat) (tp : Option Addr) (tn tcp : Nat) (wp : Option Addr) (wn wcp : Nat) (sk fr to q : Int) (L : List Ln) (T : List Tk) (M : List Ln) (W : World) (hs : sizedB s w = true) (hw : Words W) (hP : PgM W lp ln lcp L tp tn tcp T wp wn wcp M) (hok : Pgok ⟨2, od, po, L, T, M, sk, fr, to, q⟩) (h1 : ln ≤ 400 ∧ tn ≤ 400 ∧ wn ≤ 400) :
    Calls Tryz.prog 45 #[.int .i64 s, .int .i64 w, .agg #[.int .u8 2, .int .u32 od, .int .u8 po, .slice lp ln lcp, .slice tp tn tcp, .slice wp wn wcp, .int .u8 sk, .int .u8 fr, .int .u8 to, .int .i64 q]] W fun e w' => e = .returned (.bool (goodP s w ⟨2, od, po, L, T, M, sk, fr, to, q⟩)) ∧ Below W.heap.size W w' := by
  have hg : goodP s w ⟨2, od, po, L, T, M, sk, fr, to, q⟩ = ((decide (od ≠ 0) && takesB s w od T && linesB s M && decide (1 ≤ T.length + M.length)) && decide ((⟨2, od, po, L, T, M, sk, fr, to, q⟩ : Pg) = ⟨2, od, 0, [], T, M, 0, 0, 0, 0⟩)) := by
    unfold goodP
    rw [hs, Bool.true_and, ask2, qof2]
  have hs4 : 1 ≤ s ∧ s ≤ 4 ∧ 1 ≤ w ∧ w ≤ 4 := by
    unfold sizedB at hs
    simp only [Bool.and_eq_true, decide_eq_true_eq] at hs
    omega
  obtain ⟨hs1, hs2, hs3, hs4⟩ := hs4
  have h2 : ln ≤ 1000 ∧ tn ≤ 1000 ∧ wn ≤ 1000 := ⟨by omega, by omega, by omega⟩
  obtain ⟨W2, hW2, hbx, hb2⟩ : ∃ W2, W.alloc (.cells #[.int .u8 2, .int .u32 od, .int .u8 po, .slice lp ln lcp, .slice tp tn tcp, .slice wp wn wcp, .int .u8 sk, .int .u8 fr, .int .u8 to, .int .i64 q] 28) = W2 ∧ W2.heap[W.heap.size]? = some (.cells #[.int .u8 2, .int .u32 od, .int .u8 po, .slice lp ln lcp, .slice tp tn tcp, .slice wp wn wcp, .int .u8 sk, .int .u8 fr, .int .u8 to, .int .i64 q] 28 (0, 0)) ∧ Below W.heap.size W W2 := ⟨_, rfl, alloc_block W _, (Below.refl _ _).alloc (Nat.le_refl _) _⟩
  have HW2 := Lib.hid hW2
  have HB2 := Lib.hid hb2
  have HX2 := Lib.hid hbx
  have hj : ∀ w', Below W2.heap.size W2 w' → _ := fun w' h => just_p 2 od po lp ln lcp tp tn tcp wp wn wcp sk fr to q 0 od 0 none 0 0 tp tn tcp wp wn wcp 0 0 0 0 L T M [] T M w' ((hP.later hb2).later h) (have hP := (hP.later hb2).later h; ⟨SlG.empty _, hP.t, hP.o⟩) h2 ⟨by omega, h2.2.1, h2.2.2⟩
  have hq : ∀ w', Below W2.heap.size W2 w' → _ := fun w' h => goodcancel_any s w 2 od po lp ln lcp tp tn tcp wp wn wcp sk fr to q L T M w' ((hw.later hb2).later h) ((hP.later hb2).later h) hok hs1 hs2 hs3 hs4 h1
  rw [hg]
  generalize (decide (od ≠ 0) && takesB s w od T && linesB s M && decide (1 ≤ T.length + M.length)) = ex at *
  generalize decide ((⟨2, od, po, L, T, M, sk, fr, to, q⟩ : Pg) = ⟨2, od, 0, [], T, M, 0, 0, 0, 0⟩) = dd at *
  have HJ := Lib.hid hj
  have HQ := Lib.hid hq
  have y1 : decide (s < 1) = false := decide_eq_false (by omega)
  have y2 : decide (4 < s) = false := decide_eq_false (by omega)
  have y3 : decide (w < 1) = false := decide_eq_false (by omega)
  have y4 : decide (4 < w) = false := decide_eq_false (by omega)
  clear hg hW2 hb2 hbx hj hq hP hok hw hs h1 h2
  obtain ⟨a0, a1, a2, a3, a4, a5, a6, a7, a8, a9⟩ := prog_cells 2 od po lp ln lcp tp tn tcp wp wn wcp sk fr to q HX2.out
  go_enter Tryz.func45, Tryz.ntmps45
  go_wp2_with fail
  rw [HW2.out]
  refine (HJ.out W2 (Below.refl _ _)).mono ?_
  rintro e w0 ⟨rfl, hb⟩
  have HB3 := Lib.hid hb
  clear hb a0 a1 a2 a3 a4 a5 a6 a7 a8 a9
  obtain ⟨a0, a1, a2, a3, a4, a5, a6, a7, a8, a9⟩ := prog_cells 2 od po lp ln lcp tp tn tcp wp wn wcp sk fr to q (block_later HX2.out HB3.out)
  cases dd with
  | false =>
    go_wp2_with fail
    go_ret
    exact ⟨by rw [Bool.and_false]; rfl, HB2.out.trans (HB3.out.mono HB2.out.size)⟩
  | true =>
    go_wp2_with fail
    refine (HQ.out w0 HB3.out).mono ?_
    rintro e w1 ⟨rfl, hb⟩
    have HB4 := Lib.hid (HB3.out.trans (hb.mono HB3.out.size))
    clear hb a0 a1 a2 a3 a4 a5 a6 a7 a8 a9
    go_wp2_with fail
    go_ret
    exact ⟨by rw [Bool.and_true]; rfl, HB2.out.trans (HB4.out.mono HB2.out.size)⟩
set_option maxHeartbeats 8000000 in
theorem good3_p (s w : Int) (od po : Int) (lp : Option Addr) (ln lcp : Nat) (tp : Option Addr) (tn tcp : Nat) (wp : Option Addr) (wn wcp : Nat) (sk fr to q : Int) (L : List Ln) (T : List Tk) (M : List Ln) (W : World) (hs : sizedB s w = true) (hw : Words W) (hP : PgM W lp ln lcp L tp tn tcp T wp wn wcp M) (hok : Pgok ⟨3, od, po, L, T, M, sk, fr, to, q⟩) (h1 : ln ≤ 400 ∧ tn ≤ 400 ∧ wn ≤ 400) :
    Calls Tryz.prog 45 #[.int .i64 s, .int .i64 w, .agg #[.int .u8 3, .int .u32 od, .int .u8 po, .slice lp ln lcp, .slice tp tn tcp, .slice wp wn wcp, .int .u8 sk, .int .u8 fr, .int .u8 to, .int .i64 q]] W fun e w' => e = .returned (.bool (goodP s w ⟨3, od, po, L, T, M, sk, fr, to, q⟩)) ∧ Below W.heap.size W w' := by
  have hg : goodP s w ⟨3, od, po, L, T, M, sk, fr, to, q⟩ = ((decide (od ≠ 0) && takesB s w od T && decide (1 ≤ T.length)) && decide ((⟨3, od, po, L, T, M, sk, fr, to, q⟩ : Pg) = ⟨3, od, 0, [], T, [], 0, 0, 0, 0⟩)) := by
    unfold goodP
    rw [hs, Bool.true_and, ask3, qof3]
  have hs4 : 1 ≤ s ∧ s ≤ 4 ∧ 1 ≤ w ∧ w ≤ 4 := by
    unfold sizedB at hs
    simp only [Bool.and_eq_true, decide_eq_true_eq] at hs
    omega
  obtain ⟨hs1, hs2, hs3, hs4⟩ := hs4
  have h2 : ln ≤ 1000 ∧ tn ≤ 1000 ∧ wn ≤ 1000 := ⟨by omega, by omega, by omega⟩
  obtain ⟨W2, hW2, hbx, hb2⟩ : ∃ W2, W.alloc (.cells #[.int .u8 3, .int .u32 od, .int .u8 po, .slice lp ln lcp, .slice tp tn tcp, .slice wp wn wcp, .int .u8 sk, .int .u8 fr, .int .u8 to, .int .i64 q] 28) = W2 ∧ W2.heap[W.heap.size]? = some (.cells #[.int .u8 3, .int .u32 od, .int .u8 po, .slice lp ln lcp, .slice tp tn tcp, .slice wp wn wcp, .int .u8 sk, .int .u8 fr, .int .u8 to, .int .i64 q] 28 (0, 0)) ∧ Below W.heap.size W W2 := ⟨_, rfl, alloc_block W _, (Below.refl _ _).alloc (Nat.le_refl _) _⟩
  have HW2 := Lib.hid hW2
  have HB2 := Lib.hid hb2
  have HX2 := Lib.hid hbx
  have hj : ∀ w', Below W2.heap.size W2 w' → _ := fun w' h => just_p 3 od po lp ln lcp tp tn tcp wp wn wcp sk fr to q 0 od 0 none 0 0 tp tn tcp none 0 0 0 0 0 0 L T M [] T [] w' ((hP.later hb2).later h) (have hP := (hP.later hb2).later h; ⟨SlG.empty _, hP.t, SlG.empty _⟩) h2 ⟨by omega, h2.2.1, by omega⟩
  have hq : ∀ w', Below W2.heap.size W2 w' → _ := fun w' h => goodmove_any s w 3 od po lp ln lcp tp tn tcp wp wn wcp sk fr to q L T M w' ((hw.later hb2).later h) ((hP.later hb2).later h) hok hs1 hs2 hs3 hs4 h1
  rw [hg]
  generalize (decide (od ≠ 0) && takesB s w od T && decide (1 ≤ T.length)) = ex at *
  generalize decide ((⟨3, od, po, L, T, M, sk, fr, to, q⟩ : Pg) = ⟨3, od, 0, [], T, [], 0, 0, 0, 0⟩) = dd at *
  have HJ := Lib.hid hj
  have HQ := Lib.hid hq
  have y1 : decide (s < 1) = false := decide_eq_false (by omega)
  have y2 : decide (4 < s) = false := decide_eq_false (by omega)
  have y3 : decide (w < 1) = false := decide_eq_false (by omega)
  have y4 : decide (4 < w) = false := decide_eq_false (by omega)
  clear hg hW2 hb2 hbx hj hq hP hok hw hs h1 h2
  obtain ⟨a0, a1, a2, a3, a4, a5, a6, a7, a8, a9⟩ := prog_cells 3 od po lp ln lcp tp tn tcp wp wn wcp sk fr to q HX2.out
  go_enter Tryz.func45, Tryz.ntmps45
  go_wp2_with fail
  rw [HW2.out]
  refine (HJ.out W2 (Below.refl _ _)).mono ?_
  rintro e w0 ⟨rfl, hb⟩
  have HB3 := Lib.hid hb
  clear hb a0 a1 a2 a3 a4 a5 a6 a7 a8 a9
  obtain ⟨a0, a1, a2, a3, a4, a5, a6, a7, a8, a9⟩ := prog_cells 3 od po lp ln lcp tp tn tcp wp wn wcp sk fr to q (block_later HX2.out HB3.out)
  cases dd with
  | false =>
    go_wp2_with fail
    go_ret
    exact ⟨by rw [Bool.and_false]; rfl, HB2.out.trans (HB3.out.mono HB2.out.size)⟩
  | true =>
    go_wp2_with fail
    refine (HQ.out w0 HB3.out).mono ?_
    rintro e w1 ⟨rfl, hb⟩
    have HB4 := Lib.hid (HB3.out.trans (hb.mono HB3.out.size))
    clear hb a0 a1 a2 a3 a4 a5 a6 a7 a8 a9
    go_wp2_with fail
    go_ret
    exact ⟨by rw [Bool.and_true]; rfl, HB2.out.trans (HB4.out.mono HB2.out.size)⟩
set_option maxHeartbeats 8000000 in
theorem good4_p (s w : Int) (od po : Int) (lp : Option Addr) (ln lcp : Nat) (tp : Option Addr) (tn tcp : Nat) (wp : Option Addr) (wn wcp : Nat) (sk fr to q : Int) (L : List Ln) (T : List Tk) (M : List Ln) (W : World) (hs : sizedB s w = true) (hw : Words W) (hP : PgM W lp ln lcp L tp tn tcp T wp wn wcp M) (hok : Pgok ⟨4, od, po, L, T, M, sk, fr, to, q⟩) (h1 : ln ≤ 400 ∧ tn ≤ 400 ∧ wn ≤ 400) :
    Calls Tryz.prog 45 #[.int .i64 s, .int .i64 w, .agg #[.int .u8 4, .int .u32 od, .int .u8 po, .slice lp ln lcp, .slice tp tn tcp, .slice wp wn wcp, .int .u8 sk, .int .u8 fr, .int .u8 to, .int .i64 q]] W fun e w' => e = .returned (.bool (goodP s w ⟨4, od, po, L, T, M, sk, fr, to, q⟩)) ∧ Below W.heap.size W w' := by
  have hg : goodP s w ⟨4, od, po, L, T, M, sk, fr, to, q⟩ = ((decide (od ≠ 0) && takesB s w od T && decide (1 ≤ T.length)) && decide ((⟨4, od, po, L, T, M, sk, fr, to, q⟩ : Pg) = ⟨4, od, 0, [], T, [], 0, 0, 0, 0⟩)) := by
    unfold goodP
    rw [hs, Bool.true_and, ask4, qof4]
  have hs4 : 1 ≤ s ∧ s ≤ 4 ∧ 1 ≤ w ∧ w ≤ 4 := by
    unfold sizedB at hs
    simp only [Bool.and_eq_true, decide_eq_true_eq] at hs
    omega
  obtain ⟨hs1, hs2, hs3, hs4⟩ := hs4
  have h2 : ln ≤ 1000 ∧ tn ≤ 1000 ∧ wn ≤ 1000 := ⟨by omega, by omega, by omega⟩
  obtain ⟨W2, hW2, hbx, hb2⟩ : ∃ W2, W.alloc (.cells #[.int .u8 4, .int .u32 od, .int .u8 po, .slice lp ln lcp, .slice tp tn tcp, .slice wp wn wcp, .int .u8 sk, .int .u8 fr, .int .u8 to, .int .i64 q] 28) = W2 ∧ W2.heap[W.heap.size]? = some (.cells #[.int .u8 4, .int .u32 od, .int .u8 po, .slice lp ln lcp, .slice tp tn tcp, .slice wp wn wcp, .int .u8 sk, .int .u8 fr, .int .u8 to, .int .i64 q] 28 (0, 0)) ∧ Below W.heap.size W W2 := ⟨_, rfl, alloc_block W _, (Below.refl _ _).alloc (Nat.le_refl _) _⟩
  have HW2 := Lib.hid hW2
  have HB2 := Lib.hid hb2
  have HX2 := Lib.hid hbx
  have hj : ∀ w', Below W2.heap.size W2 w' → _ := fun w' h => just_p 4 od po lp ln lcp tp tn tcp wp wn wcp sk fr to q 0 od 0 none 0 0 tp tn tcp none 0 0 0 0 0 0 L T M [] T [] w' ((hP.later hb2).later h) (have hP := (hP.later hb2).later h; ⟨SlG.empty _, hP.t, SlG.empty _⟩) h2 ⟨by omega, h2.2.1, by omega⟩
  have hq : ∀ w', Below W2.heap.size W2 w' → _ := fun w' h => goodmove_any s w 4 od po lp ln lcp tp tn tcp wp wn wcp sk fr to q L T M w' ((hw.later hb2).later h) ((hP.later hb2).later h) hok hs1 hs2 hs3 hs4 h1
  rw [hg]
  generalize (decide (od ≠ 0) && takesB s w od T && decide (1 ≤ T.length)) = ex at *
  generalize decide ((⟨4, od, po, L, T, M, sk, fr, to, q⟩ : Pg) = ⟨4, od, 0, [], T, [], 0, 0, 0, 0⟩) = dd at *
  have HJ := Lib.hid hj
  have HQ := Lib.hid hq
  have y1 : decide (s < 1) = false := decide_eq_false (by omega)
  have y2 : decide (4 < s) = false := decide_eq_false (by omega)
  have y3 : decide (w < 1) = false := decide_eq_false (by omega)
  have y4 : decide (4 < w) = false := decide_eq_false (by omega)
  clear hg hW2 hb2 hbx hj hq hP hok hw hs h1 h2
  obtain ⟨a0, a1, a2, a3, a4, a5, a6, a7, a8, a9⟩ := prog_cells 4 od po lp ln lcp tp tn tcp wp wn wcp sk fr to q HX2.out
  go_enter Tryz.func45, Tryz.ntmps45
  go_wp2_with fail
  rw [HW2.out]
  refine (HJ.out W2 (Below.refl _ _)).mono ?_
  rintro e w0 ⟨rfl, hb⟩
  have HB3 := Lib.hid hb
  clear hb a0 a1 a2 a3 a4 a5 a6 a7 a8 a9
  obtain ⟨a0, a1, a2, a3, a4, a5, a6, a7, a8, a9⟩ := prog_cells 4 od po lp ln lcp tp tn tcp wp wn wcp sk fr to q (block_later HX2.out HB3.out)
  cases dd with
  | false =>
    go_wp2_with fail
    go_ret
    exact ⟨by rw [Bool.and_false]; rfl, HB2.out.trans (HB3.out.mono HB2.out.size)⟩
  | true =>
    go_wp2_with fail
    refine (HQ.out w0 HB3.out).mono ?_
    rintro e w1 ⟨rfl, hb⟩
    have HB4 := Lib.hid (HB3.out.trans (hb.mono HB3.out.size))
    clear hb a0 a1 a2 a3 a4 a5 a6 a7 a8 a9
    go_wp2_with fail
    go_ret
    exact ⟨by rw [Bool.and_true]; rfl, HB2.out.trans (HB4.out.mono HB2.out.size)⟩
set_option maxHeartbeats 8000000 in
theorem good5_p (s w : Int) (od po : Int) (lp : Option Addr) (ln lcp : Nat) (tp : Option Addr) (tn tcp : Nat) (wp : Option Addr) (wn wcp : Nat) (sk fr to q : Int) (L : List Ln) (T : List Tk) (M : List Ln) (W : World) (hs : sizedB s w = true) (hw : Words W) (hP : PgM W lp ln lcp L tp tn tcp T wp wn wcp M) (hok : Pgok ⟨5, od, po, L, T, M, sk, fr, to, q⟩) (h1 : ln ≤ 400 ∧ tn ≤ 400 ∧ wn ≤ 400) :
    Calls Tryz.prog 45 #[.int .i64 s, .int .i64 w, .agg #[.int .u8 5, .int .u32 od, .int .u8 po, .slice lp ln lcp, .slice tp tn tcp, .slice wp wn wcp, .int .u8 sk, .int .u8 fr, .int .u8 to, .int .i64 q]] W fun e w' => e = .returned (.bool (goodP s w ⟨5, od, po, L, T, M, sk, fr, to, q⟩)) ∧ Below W.heap.size W w' := by
  have hg : goodP s w ⟨5, od, po, L, T, M, sk, fr, to, q⟩ = ((decide (sk < s) && decide (to < w) && decide (1 ≤ q) && fillsB sk to q T) && decide ((⟨5, od, po, L, T, M, sk, fr, to, q⟩ : Pg) = ⟨5, 0, 0, [], T, [], sk, 0, to, q⟩)) := by
    unfold goodP
    rw [hs, Bool.true_and, ask5, qof5]
  have hs4 : 1 ≤ s ∧ s ≤ 4 ∧ 1 ≤ w ∧ w ≤ 4 := by
    unfold sizedB at hs
    simp only [Bool.and_eq_true, decide_eq_true_eq] at hs
    omega
  obtain ⟨hs1, hs2, hs3, hs4⟩ := hs4
  have h2 : ln ≤ 1000 ∧ tn ≤ 1000 ∧ wn ≤ 1000 := ⟨by omega, by omega, by omega⟩
  obtain ⟨W2, hW2, hbx, hb2⟩ : ∃ W2, W.alloc (.cells #[.int .u8 5, .int .u32 od, .int .u8 po, .slice lp ln lcp, .slice tp tn tcp, .slice wp wn wcp, .int .u8 sk, .int .u8 fr, .int .u8 to, .int .i64 q] 28) = W2 ∧ W2.heap[W.heap.size]? = some (.cells #[.int .u8 5, .int .u32 od, .int .u8 po, .slice lp ln lcp, .slice tp tn tcp, .slice wp wn wcp, .int .u8 sk, .int .u8 fr, .int .u8 to, .int .i64 q] 28 (0, 0)) ∧ Below W.heap.size W W2 := ⟨_, rfl, alloc_block W _, (Below.refl _ _).alloc (Nat.le_refl _) _⟩
  have HW2 := Lib.hid hW2
  have HB2 := Lib.hid hb2
  have HX2 := Lib.hid hbx
  have hj : ∀ w', Below W2.heap.size W2 w' → _ := fun w' h => just_p 5 od po lp ln lcp tp tn tcp wp wn wcp sk fr to q 0 0 0 none 0 0 tp tn tcp none 0 0 sk 0 to q L T M [] T [] w' ((hP.later hb2).later h) (have hP := (hP.later hb2).later h; ⟨SlG.empty _, hP.t, SlG.empty _⟩) h2 ⟨by omega, h2.2.1, by omega⟩
  have hq : ∀ w', Below W2.heap.size W2 w' → _ := fun w' h => goodrestock_any s w 5 od po lp ln lcp tp tn tcp wp wn wcp sk fr to q L T M w' ((hw.later hb2).later h) ((hP.later hb2).later h) hok hs1 hs2 hs3 hs4 h1
  rw [hg]
  generalize (decide (sk < s) && decide (to < w) && decide (1 ≤ q) && fillsB sk to q T) = ex at *
  generalize decide ((⟨5, od, po, L, T, M, sk, fr, to, q⟩ : Pg) = ⟨5, 0, 0, [], T, [], sk, 0, to, q⟩) = dd at *
  have HJ := Lib.hid hj
  have HQ := Lib.hid hq
  have y1 : decide (s < 1) = false := decide_eq_false (by omega)
  have y2 : decide (4 < s) = false := decide_eq_false (by omega)
  have y3 : decide (w < 1) = false := decide_eq_false (by omega)
  have y4 : decide (4 < w) = false := decide_eq_false (by omega)
  clear hg hW2 hb2 hbx hj hq hP hok hw hs h1 h2
  obtain ⟨a0, a1, a2, a3, a4, a5, a6, a7, a8, a9⟩ := prog_cells 5 od po lp ln lcp tp tn tcp wp wn wcp sk fr to q HX2.out
  go_enter Tryz.func45, Tryz.ntmps45
  go_wp2_with fail
  rw [HW2.out]
  refine (HJ.out W2 (Below.refl _ _)).mono ?_
  rintro e w0 ⟨rfl, hb⟩
  have HB3 := Lib.hid hb
  clear hb a0 a1 a2 a3 a4 a5 a6 a7 a8 a9
  obtain ⟨a0, a1, a2, a3, a4, a5, a6, a7, a8, a9⟩ := prog_cells 5 od po lp ln lcp tp tn tcp wp wn wcp sk fr to q (block_later HX2.out HB3.out)
  cases dd with
  | false =>
    go_wp2_with fail
    go_ret
    exact ⟨by rw [Bool.and_false]; rfl, HB2.out.trans (HB3.out.mono HB2.out.size)⟩
  | true =>
    go_wp2_with fail
    refine (HQ.out w0 HB3.out).mono ?_
    rintro e w1 ⟨rfl, hb⟩
    have HB4 := Lib.hid (HB3.out.trans (hb.mono HB3.out.size))
    clear hb a0 a1 a2 a3 a4 a5 a6 a7 a8 a9
    go_wp2_with fail
    go_ret
    exact ⟨by rw [Bool.and_true]; rfl, HB2.out.trans (HB4.out.mono HB2.out.size)⟩
set_option maxHeartbeats 8000000 in
theorem good6_p (s w : Int) (od po : Int) (lp : Option Addr) (ln lcp : Nat) (tp : Option Addr) (tn tcp : Nat) (wp : Option Addr) (wn wcp : Nat) (sk fr to q : Int) (L : List Ln) (T : List Tk) (M : List Ln) (W : World) (hs : sizedB s w = true) (hw : Words W) (hP : PgM W lp ln lcp L tp tn tcp T wp wn wcp M) (hok : Pgok ⟨6, od, po, L, T, M, sk, fr, to, q⟩) (h1 : ln ≤ 400 ∧ tn ≤ 400 ∧ wn ≤ 400) :
    Calls Tryz.prog 45 #[.int .i64 s, .int .i64 w, .agg #[.int .u8 6, .int .u32 od, .int .u8 po, .slice lp ln lcp, .slice tp tn tcp, .slice wp wn wcp, .int .u8 sk, .int .u8 fr, .int .u8 to, .int .i64 q]] W fun e w' => e = .returned (.bool (goodP s w ⟨6, od, po, L, T, M, sk, fr, to, q⟩)) ∧ Below W.heap.size W w' := by
  have hg : goodP s w ⟨6, od, po, L, T, M, sk, fr, to, q⟩ = ((decide (sk < s) && decide (fr < w) && decide (to < w) && decide (fr ≠ to) && decide (1 ≤ q)) && decide ((⟨6, od, po, L, T, M, sk, fr, to, q⟩ : Pg) = ⟨6, 0, 0, [], [], [], sk, fr, to, q⟩)) := by
    unfold goodP
    rw [hs, Bool.true_and, ask6, qof6]
  have hs4 : 1 ≤ s ∧ s ≤ 4 ∧ 1 ≤ w ∧ w ≤ 4 := by
    unfold sizedB at hs
    simp only [Bool.and_eq_true, decide_eq_true_eq] at hs
    omega
  obtain ⟨hs1, hs2, hs3, hs4⟩ := hs4
  have h2 : ln ≤ 1000 ∧ tn ≤ 1000 ∧ wn ≤ 1000 := ⟨by omega, by omega, by omega⟩
  obtain ⟨W2, hW2, hbx, hb2⟩ : ∃ W2, W.alloc (.cells #[.int .u8 6, .int .u32 od, .int .u8 po, .slice lp ln lcp, .slice tp tn tcp, .slice wp wn wcp, .int .u8 sk, .int .u8 fr, .int .u8 to, .int .i64 q] 28) = W2 ∧ W2.heap[W.heap.size]? = some (.cells #[.int .u8 6, .int .u32 od, .int .u8 po, .slice lp ln lcp, .slice tp tn tcp, .slice wp wn wcp, .int .u8 sk, .int .u8 fr, .int .u8 to, .int .i64 q] 28 (0, 0)) ∧ Below W.heap.size W W2 := ⟨_, rfl, alloc_block W _, (Below.refl _ _).alloc (Nat.le_refl _) _⟩
  have HW2 := Lib.hid hW2
  have HB2 := Lib.hid hb2
  have HX2 := Lib.hid hbx
  have hj : ∀ w', Below W2.heap.size W2 w' → _ := fun w' h => just_p 6 od po lp ln lcp tp tn tcp wp wn wcp sk fr to q 0 0 0 none 0 0 none 0 0 none 0 0 sk fr to q L T M [] [] [] w' ((hP.later hb2).later h) (have hP := (hP.later hb2).later h; ⟨SlG.empty _, SlG.empty _, SlG.empty _⟩) h2 ⟨by omega, by omega, by omega⟩
  have hq : ∀ w', Below W2.heap.size W2 w' → _ := fun w' h => goodtransfer_any s w 6 od po lp ln lcp tp tn tcp wp wn wcp sk fr to q L T M w' ((hw.later hb2).later h) ((hP.later hb2).later h) hok hs1 hs2 hs3 hs4 h1
  rw [hg]
  generalize (decide (sk < s) && decide (fr < w) && decide (to < w) && decide (fr ≠ to) && decide (1 ≤ q)) = ex at *
  generalize decide ((⟨6, od, po, L, T, M, sk, fr, to, q⟩ : Pg) = ⟨6, 0, 0, [], [], [], sk, fr, to, q⟩) = dd at *
  have HJ := Lib.hid hj
  have HQ := Lib.hid hq
  have y1 : decide (s < 1) = false := decide_eq_false (by omega)
  have y2 : decide (4 < s) = false := decide_eq_false (by omega)
  have y3 : decide (w < 1) = false := decide_eq_false (by omega)
  have y4 : decide (4 < w) = false := decide_eq_false (by omega)
  clear hg hW2 hb2 hbx hj hq hP hok hw hs h1 h2
  obtain ⟨a0, a1, a2, a3, a4, a5, a6, a7, a8, a9⟩ := prog_cells 6 od po lp ln lcp tp tn tcp wp wn wcp sk fr to q HX2.out
  go_enter Tryz.func45, Tryz.ntmps45
  go_wp2_with fail
  rw [HW2.out]
  refine (HJ.out W2 (Below.refl _ _)).mono ?_
  rintro e w0 ⟨rfl, hb⟩
  have HB3 := Lib.hid hb
  clear hb a0 a1 a2 a3 a4 a5 a6 a7 a8 a9
  obtain ⟨a0, a1, a2, a3, a4, a5, a6, a7, a8, a9⟩ := prog_cells 6 od po lp ln lcp tp tn tcp wp wn wcp sk fr to q (block_later HX2.out HB3.out)
  cases dd with
  | false =>
    go_wp2_with fail
    go_ret
    exact ⟨by rw [Bool.and_false]; rfl, HB2.out.trans (HB3.out.mono HB2.out.size)⟩
  | true =>
    go_wp2_with fail
    refine (HQ.out w0 HB3.out).mono ?_
    rintro e w1 ⟨rfl, hb⟩
    have HB4 := Lib.hid (HB3.out.trans (hb.mono HB3.out.size))
    clear hb a0 a1 a2 a3 a4 a5 a6 a7 a8 a9
    go_wp2_with fail
    go_ret
    exact ⟨by rw [Bool.and_true]; rfl, HB2.out.trans (HB4.out.mono HB2.out.size)⟩
set_option maxHeartbeats 4000000 in
theorem good_p (s w : Int) (k od po : Int) (lp : Option Addr) (ln lcp : Nat) (tp : Option Addr) (tn tcp : Nat) (wp : Option Addr) (wn wcp : Nat) (sk fr to q : Int) (L : List Ln) (T : List Tk) (M : List Ln) (W : World) (hw : Words W) (hP : PgM W lp ln lcp L tp tn tcp T wp wn wcp M) (hok : Pgok ⟨k, od, po, L, T, M, sk, fr, to, q⟩) (h1 : ln ≤ 400 ∧ tn ≤ 400 ∧ wn ≤ 400) :
    Calls Tryz.prog 45 #[.int .i64 s, .int .i64 w, .agg #[.int .u8 k, .int .u32 od, .int .u8 po, .slice lp ln lcp, .slice tp tn tcp, .slice wp wn wcp, .int .u8 sk, .int .u8 fr, .int .u8 to, .int .i64 q]] W fun e w' => e = .returned (.bool (goodP s w ⟨k, od, po, L, T, M, sk, fr, to, q⟩)) ∧ Below W.heap.size W w' := by
  have hb1 : Below W.heap.size W (W.alloc (.cells #[.int .u8 k, .int .u32 od, .int .u8 po, .slice lp ln lcp, .slice tp tn tcp, .slice wp wn wcp, .int .u8 sk, .int .u8 fr, .int .u8 to, .int .i64 q] 28)) := (Below.refl _ _).alloc (Nat.le_refl _) _
  have HB := Lib.hid hb1
  clear hb1
  by_cases y1 : s < 1
  · have HF := Lib.hid (goodP_unsized (P := ⟨k, od, po, L, T, M, sk, fr, to, q⟩) (show sizedB s w = false by unfold sizedB; simp; omega))
    have z1 : decide (s < 1) = true := decide_eq_true y1
    clear hP hok hw
    go_enter Tryz.func45, Tryz.ntmps45
    go_wp2_with fail
    go_ret
    exact ⟨by rw [HF.out]; rfl, HB.out⟩
  have z1 : decide (s < 1) = false := decide_eq_false y1
  by_cases y2 : 4 < s
  · have HF := Lib.hid (goodP_unsized (P := ⟨k, od, po, L, T, M, sk, fr, to, q⟩) (show sizedB s w = false by unfold sizedB; simp; omega))
    have z2 : decide (4 < s) = true := decide_eq_true y2
    clear hP hok hw
    go_enter Tryz.func45, Tryz.ntmps45
    go_wp2_with fail
    go_ret
    exact ⟨by rw [HF.out]; rfl, HB.out⟩
  have z2 : decide (4 < s) = false := decide_eq_false y2
  by_cases y3 : w < 1
  · have HF := Lib.hid (goodP_unsized (P := ⟨k, od, po, L, T, M, sk, fr, to, q⟩) (show sizedB s w = false by unfold sizedB; simp; omega))
    have z3 : decide (w < 1) = true := decide_eq_true y3
    clear hP hok hw
    go_enter Tryz.func45, Tryz.ntmps45
    go_wp2_with fail
    go_ret
    exact ⟨by rw [HF.out]; rfl, HB.out⟩
  have z3 : decide (w < 1) = false := decide_eq_false y3
  by_cases y4 : 4 < w
  · have HF := Lib.hid (goodP_unsized (P := ⟨k, od, po, L, T, M, sk, fr, to, q⟩) (show sizedB s w = false by unfold sizedB; simp; omega))
    have z4 : decide (4 < w) = true := decide_eq_true y4
    clear hP hok hw
    go_enter Tryz.func45, Tryz.ntmps45
    go_wp2_with fail
    go_ret
    exact ⟨by rw [HF.out]; rfl, HB.out⟩
  have z4 : decide (4 < w) = false := decide_eq_false y4
  have hs : sizedB s w = true := by unfold sizedB; simp; omega
  by_cases k1 : k = 1
  · subst k1
    exact good1_p s w od po lp ln lcp tp tn tcp wp wn wcp sk fr to q L T M W hs hw hP hok h1
  by_cases k2 : k = 2
  · subst k2
    exact good2_p s w od po lp ln lcp tp tn tcp wp wn wcp sk fr to q L T M W hs hw hP hok h1
  by_cases k3 : k = 3
  · subst k3
    exact good3_p s w od po lp ln lcp tp tn tcp wp wn wcp sk fr to q L T M W hs hw hP hok h1
  by_cases k4 : k = 4
  · subst k4
    exact good4_p s w od po lp ln lcp tp tn tcp wp wn wcp sk fr to q L T M W hs hw hP hok h1
  by_cases k5 : k = 5
  · subst k5
    exact good5_p s w od po lp ln lcp tp tn tcp wp wn wcp sk fr to q L T M W hs hw hP hok h1
  by_cases k6 : k = 6
  · subst k6
    exact good6_p s w od po lp ln lcp tp tn tcp wp wn wcp sk fr to q L T M W hs hw hP hok h1
  have HF := Lib.hid (goodP_kind (s := s) (w := w) (P := ⟨k, od, po, L, T, M, sk, fr, to, q⟩) ⟨k1, k2, k3, k4, k5, k6⟩)
  have e1 : (k == 1) = false := by simpa using k1
  have e2 : (k == 2) = false := by simpa using k2
  have e3 : (k == 3) = false := by simpa using k3
  have e4 : (k == 4) = false := by simpa using k4
  have e5 : (k == 5) = false := by simpa using k5
  have e6 : (k == 6) = false := by simpa using k6
  clear hP hok hw k1 k2 k3 k4 k5 k6 hs
  go_enter Tryz.func45, Tryz.ntmps45
  go_wp2_with fail
  go_ret
  exact ⟨by rw [HF.out]; rfl, HB.out⟩
end Go.Proofs.YtdcanppiiikjgaaGreatDoor
