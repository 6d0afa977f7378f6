/- Whether a program may be: the document's way: kind 6. -/
import Derived.Test.YtdcanppiiikjgaaDoorPgEq
import Derived.Test.YtdcanppiiikjgaaDoorGrProgb
namespace Go.Proofs.YtdcanppiiikjgaaDoor
open Go.RowKit Go.ChangeShapes Go.WideShapes
set_option linter.unusedVariables false
set_option maxRecDepth 10000

theorem ask6 (s w od po : Int) (L : List Ln) (T : List Tk) (M : List Ln) (sk fr to q : Int) : askP s w ⟨6, od, po, L, T, M, sk, fr, to, q⟩ = (decide (sk < s) && decide (fr < w) && decide (to < w) && decide (fr ≠ to) && decide (1 ≤ q)) := rfl
theorem qof6 (od po : Int) (L : List Ln) (T : List Tk) (M : List Ln) (sk fr to q : Int) : qofP ⟨6, od, po, L, T, M, sk, fr, to, q⟩ = ⟨6, 0, 0, [], [], [], sk, fr, to, q⟩ := rfl
set_option maxHeartbeats 8000000 in
theorem rgood6 (s w : Int) (od po : Int) (lp : Option Addr) (ln lcp : Nat) (tp : Option Addr) (tn tcp : Nat) (wp : Option Addr) (wn wcp : Nat) (sk fr to q : Int) (L : List Ln) (T : List Tk) (M : List Ln) (W : World) (hs : sizedB s w = true) (hP : PgM W lp ln lcp L tp tn tcp T wp wn wcp M) (hok : Pgok ⟨6, od, po, L, T, M, sk, fr, to, q⟩) (h1 : ln ≤ 1000 ∧ tn ≤ 1000 ∧ wn ≤ 1000) :
    Calls Tryd.prog 19 #[.int .i64 s, .int .i64 w, .agg #[.int .u8 6, .int .u32 od, .int .u8 po, .slice lp ln lcp, .slice tp tn tcp, .slice wp wn wcp, .int .u8 sk, .int .u8 fr, .int .u8 to, .int .i64 q]] W fun e w' => e = .returned (.bool (goodP s w ⟨6, od, po, L, T, M, sk, fr, to, q⟩)) ∧ Below W.heap.size W w' := by
  have hg : goodP s w ⟨6, od, po, L, T, M, sk, fr, to, q⟩ = ((decide (sk < s) && decide (fr < w) && decide (to < w) && decide (fr ≠ to) && decide (1 ≤ q)) && decide ((⟨6, od, po, L, T, M, sk, fr, to, q⟩ : Pg) = ⟨6, 0, 0, [], [], [], sk, fr, to, q⟩)) := by
    show (sizedB s w && askP s w ⟨6, od, po, L, T, M, sk, fr, to, q⟩ && decide ((⟨6, od, po, L, T, M, sk, fr, to, q⟩ : Pg) = qofP ⟨6, od, po, L, T, M, sk, fr, to, q⟩)) = _
    rw [hs, Bool.true_and, ask6, qof6]
  have hs4 : 1 ≤ s ∧ s ≤ 4 ∧ 1 ≤ w ∧ w ≤ 4 := by
    unfold sizedB at hs
    simp only [Bool.and_eq_true, decide_eq_true_eq] at hs
    omega
  obtain ⟨W2, hW2, b0, b1, hb⟩ := two_progs W #[.int .u8 6, .int .u32 od, .int .u8 po, .slice lp ln lcp, .slice tp tn tcp, .slice wp wn wcp, .int .u8 sk, .int .u8 fr, .int .u8 to, .int .i64 q] #[.int .u8 6, .int .u32 0, .int .u8 0, .slice none 0 0, .slice none 0 0, .slice none 0 0, .int .u8 sk, .int .u8 fr, .int .u8 to, .int .i64 q]
  have HW := Lib.hid hW2
  have HB := Lib.hid hb
  have HX := Lib.hid b0
  have HY := Lib.hid b1
  have HP := Lib.hid (hP.later hb)
  have HLL := Lib.hid hP.l.len
  have HLT := Lib.hid hP.t.len
  have HLM := Lib.hid hP.o.len
  have hsk : 0 ≤ sk ∧ sk ≤ 255 := hok.sku
  have hfr : 0 ≤ fr ∧ fr ≤ 255 := hok.frm
  have hto : 0 ≤ to ∧ to ≤ 255 := hok.to
  have hpo : 0 ≤ po ∧ po ≤ 255 := hok.policy
  have HSA := Lib.hid fun w' (h : Below W2.heap.size W2 w') => rsame_p 6 od po lp ln lcp tp tn tcp wp wn wcp sk fr to q 6 0 0 none 0 0 none 0 0 none 0 0 sk fr to q L T M [] [] [] w' (HP.out.later h) ⟨SlG.empty _, SlG.empty _, SlG.empty _⟩ h1 ⟨by omega, by omega, by omega⟩
  have HC := Lib.hid fun w' (h : Below W2.heap.size W2 w') => prog_cells 6 od po lp ln lcp tp tn tcp wp wn wcp sk fr to q (block_later HX.out h)
  have HD := Lib.hid fun w' (h : Below W2.heap.size W2 w') => prog_cells 6 0 0 none 0 0 none 0 0 none 0 0 sk fr to q (block_later HY.out h)
  have y1 : decide (s < 1) = false := decide_eq_false (by omega)
  have y2 : decide (4 < s) = false := decide_eq_false (by omega)
  have y3 : decide (w < 1) = false := decide_eq_false (by omega)
  have y4 : decide (4 < w) = false := decide_eq_false (by omega)
  have x6 : IntKind.i64.wrap sk = sk := IntWalk.i64_in _ (by omega)
  have x7 : IntKind.i64.wrap fr = fr := IntWalk.i64_in _ (by omega)
  have x8 : IntKind.i64.wrap to = to := IntWalk.i64_in _ (by omega)
  have HG := Lib.hid hg
  have H1 := Lib.hid h1
  clear hg hs hs4 hW2 b0 b1 hb hP hok hsk hfr hto hpo
  by_cases t0 : sk < s
  case neg =>
    have f0 : decide (sk < s) = false := decide_eq_false t0
    have HF : Hid (goodP s w ⟨6, od, po, L, T, M, sk, fr, to, q⟩ = false) := Lib.hid (by rw [HG.out]; rw [decide_eq_false t0]; simp)
    go_enter Tryd.func19, Tryd.ntmps19
    go_wp2_with fail
    go_ret
    rw [HW.out]
    exact ⟨by rw [HF.out]; rfl, HB.out.trans ((Below.refl _ _).mono HB.out.size)⟩
  have f0 : decide (sk < s) = true := decide_eq_true t0
  by_cases t1 : fr < w
  case neg =>
    have f1 : decide (fr < w) = false := decide_eq_false t1
    have HF : Hid (goodP s w ⟨6, od, po, L, T, M, sk, fr, to, q⟩ = false) := Lib.hid (by rw [HG.out]; rw [decide_eq_false t1]; simp)
    go_enter Tryd.func19, Tryd.ntmps19
    go_wp2_with fail
    go_ret
    rw [HW.out]
    exact ⟨by rw [HF.out]; rfl, HB.out.trans ((Below.refl _ _).mono HB.out.size)⟩
  have f1 : decide (fr < w) = true := decide_eq_true t1
  by_cases t2 : to < w
  case neg =>
    have f2 : decide (to < w) = false := decide_eq_false t2
    have HF : Hid (goodP s w ⟨6, od, po, L, T, M, sk, fr, to, q⟩ = false) := Lib.hid (by rw [HG.out]; rw [decide_eq_false t2]; simp)
    go_enter Tryd.func19, Tryd.ntmps19
    go_wp2_with fail
    go_ret
    rw [HW.out]
    exact ⟨by rw [HF.out]; rfl, HB.out.trans ((Below.refl _ _).mono HB.out.size)⟩
  have f2 : decide (to < w) = true := decide_eq_true t2
  by_cases t3 : fr ≠ to
  case neg =>
    have f3 : (fr != to) = false := by simpa using t3
    have HF : Hid (goodP s w ⟨6, od, po, L, T, M, sk, fr, to, q⟩ = false) := Lib.hid (by rw [HG.out]; rw [decide_eq_false t3]; simp)
    go_enter Tryd.func19, Tryd.ntmps19
    go_wp2_with fail
    go_ret
    rw [HW.out]
    exact ⟨by rw [HF.out]; rfl, HB.out.trans ((Below.refl _ _).mono HB.out.size)⟩
  have f3 : (fr != to) = true := by simpa using t3
  by_cases t4 : 1 ≤ q
  case neg =>
    have f4 : decide (1 ≤ q) = false := decide_eq_false t4
    have HF : Hid (goodP s w ⟨6, od, po, L, T, M, sk, fr, to, q⟩ = false) := Lib.hid (by rw [HG.out]; rw [decide_eq_false t4]; simp)
    go_enter Tryd.func19, Tryd.ntmps19
    go_wp2_with fail
    go_ret
    rw [HW.out]
    exact ⟨by rw [HF.out]; rfl, HB.out.trans ((Below.refl _ _).mono HB.out.size)⟩
  have f4 : decide (1 ≤ q) = true := decide_eq_true t4
  have HF : Hid (goodP s w ⟨6, od, po, L, T, M, sk, fr, to, q⟩ = decide ((⟨6, od, po, L, T, M, sk, fr, to, q⟩ : Pg) = ⟨6, 0, 0, [], [], [], sk, fr, to, q⟩)) := Lib.hid (by rw [HG.out, decide_eq_true t0, decide_eq_true t1, decide_eq_true t2, decide_eq_true t3, decide_eq_true t4]; simp)
  clear HG
  generalize decide ((⟨6, od, po, L, T, M, sk, fr, to, q⟩ : Pg) = ⟨6, 0, 0, [], [], [], sk, fr, to, q⟩) = bb at *
  obtain ⟨a0, a1, a2, a3, a4, a5, a6, a7, a8, a9⟩ := HC.out W2 (Below.refl _ _)
  obtain ⟨b0, b1, b2, b3, b4, b5, b6, b7, b8, b9⟩ := HD.out W2 (Below.refl _ _)
  go_enter Tryd.func19, Tryd.ntmps19
  go_wp2_with fail
  rw [HW.out]
  refine (HSA.out W2 (Below.refl _ _)).mono ?_
  rintro e w9 ⟨rfl, hb9⟩
  have HB9 := Lib.hid hb9
  clear hb9 a0 a1 a2 a3 a4 a5 a6 a7 a8 a9 b0 b1 b2 b3 b4 b5 b6 b7 b8 b9
  go_wp2_with fail
  go_ret
  exact ⟨by rw [HF.out]; rfl, HB.out.trans (HB9.out.mono HB.out.size)⟩
end Go.Proofs.YtdcanppiiikjgaaDoor
