/- Whether a program may be: the document's way: kind 5. -/
import Derived.Test.YtdcanppiiikjgaaDoorPgEq
import Derived.Test.YtdcanppiiikjgaaDoorGrProgb
namespace Go.Proofs.YtdcanppiiikjgaaDoor
open Go.RowKit Go.ChangeShapes Go.WideShapes
set_option linter.unusedVariables false
set_option maxRecDepth 10000

theorem ask5 (s w od po : Int) (L : List Ln) (T : List Tk) (M : List Ln) (sk fr to q : Int) : askP s w ⟨5, od, po, L, T, M, sk, fr, to, q⟩ = (decide (sk < s) && decide (to < w) && decide (1 ≤ q) && fillsB sk to q T) := rfl
theorem qof5 (od po : Int) (L : List Ln) (T : List Tk) (M : List Ln) (sk fr to q : Int) : qofP ⟨5, od, po, L, T, M, sk, fr, to, q⟩ = ⟨5, 0, 0, [], T, [], sk, 0, to, q⟩ := rfl
set_option maxHeartbeats 8000000 in
theorem rgood5 (s w : Int) (od po : Int) (lp : Option Addr) (ln lcp : Nat) (tp : Option Addr) (tn tcp : Nat) (wp : Option Addr) (wn wcp : Nat) (sk fr to q : Int) (L : List Ln) (T : List Tk) (M : List Ln) (W : World) (hs : sizedB s w = true) (hP : PgM W lp ln lcp L tp tn tcp T wp wn wcp M) (hok : Pgok ⟨5, od, po, L, T, M, sk, fr, to, q⟩) (h1 : ln ≤ 1000 ∧ tn ≤ 1000 ∧ wn ≤ 1000) :
    Calls Tryd.prog 19 #[.int .i64 s, .int .i64 w, .agg #[.int .u8 5, .int .u32 od, .int .u8 po, .slice lp ln lcp, .slice tp tn tcp, .slice wp wn wcp, .int .u8 sk, .int .u8 fr, .int .u8 to, .int .i64 q]] W fun e w' => e = .returned (.bool (goodP s w ⟨5, od, po, L, T, M, sk, fr, to, q⟩)) ∧ Below W.heap.size W w' := by
  have hg : goodP s w ⟨5, od, po, L, T, M, sk, fr, to, q⟩ = ((decide (sk < s) && decide (to < w) && decide (1 ≤ q) && fillsB sk to q T) && decide ((⟨5, od, po, L, T, M, sk, fr, to, q⟩ : Pg) = ⟨5, 0, 0, [], T, [], sk, 0, to, q⟩)) := by
    show (sizedB s w && askP s w ⟨5, od, po, L, T, M, sk, fr, to, q⟩ && decide ((⟨5, od, po, L, T, M, sk, fr, to, q⟩ : Pg) = qofP ⟨5, od, po, L, T, M, sk, fr, to, q⟩)) = _
    rw [hs, Bool.true_and, ask5, qof5]
  have hs4 : 1 ≤ s ∧ s ≤ 4 ∧ 1 ≤ w ∧ w ≤ 4 := by
    unfold sizedB at hs
    simp only [Bool.and_eq_true, decide_eq_true_eq] at hs
    omega
  obtain ⟨W2, hW2, b0, b1, hb⟩ := two_progs W #[.int .u8 5, .int .u32 od, .int .u8 po, .slice lp ln lcp, .slice tp tn tcp, .slice wp wn wcp, .int .u8 sk, .int .u8 fr, .int .u8 to, .int .i64 q] #[.int .u8 5, .int .u32 0, .int .u8 0, .slice none 0 0, .slice tp tn tcp, .slice none 0 0, .int .u8 sk, .int .u8 0, .int .u8 to, .int .i64 q]
  have HW := Lib.hid hW2
  have HB := Lib.hid hb
  have HX := Lib.hid b0
  have HY := Lib.hid b1
  have HP := Lib.hid (hP.later hb)
  have HLL := Lib.hid hP.l.len
  have HLT := Lib.hid hP.t.len
  have HLM := Lib.hid hP.o.len
  have hsk : 0 ≤ sk ∧ sk ≤ 255 := hok.sku
  have hfr : 0 ≤ fr ∧ fr ≤ 255 := hok.frm
  have hto : 0 ≤ to ∧ to ≤ 255 := hok.to
  have hpo : 0 ≤ po ∧ po ≤ 255 := hok.policy
  have HFI := Lib.hid fun w' (h : Below W2.heap.size W2 w') => rfills_any 5 od po lp ln lcp tp tn tcp wp wn wcp sk fr to q T w' (HP.out.later h).t hok.takes h1.2.1
  have HSA := Lib.hid fun w' (h : Below W2.heap.size W2 w') => rsame_p 5 od po lp ln lcp tp tn tcp wp wn wcp sk fr to q 5 0 0 none 0 0 tp tn tcp none 0 0 sk 0 to q L T M [] T [] w' (HP.out.later h) ⟨SlG.empty _, (HP.out.later h).t, SlG.empty _⟩ h1 ⟨by omega, h1.2.1, by omega⟩
  have HC := Lib.hid fun w' (h : Below W2.heap.size W2 w') => prog_cells 5 od po lp ln lcp tp tn tcp wp wn wcp sk fr to q (block_later HX.out h)
  have HD := Lib.hid fun w' (h : Below W2.heap.size W2 w') => prog_cells 5 0 0 none 0 0 tp tn tcp none 0 0 sk 0 to q (block_later HY.out h)
  have y1 : decide (s < 1) = false := decide_eq_false (by omega)
  have y2 : decide (4 < s) = false := decide_eq_false (by omega)
  have y3 : decide (w < 1) = false := decide_eq_false (by omega)
  have y4 : decide (4 < w) = false := decide_eq_false (by omega)
  have x6 : IntKind.i64.wrap sk = sk := IntWalk.i64_in _ (by omega)
  have x7 : IntKind.i64.wrap fr = fr := IntWalk.i64_in _ (by omega)
  have x8 : IntKind.i64.wrap to = to := IntWalk.i64_in _ (by omega)
  have HG := Lib.hid hg
  have H1 := Lib.hid h1
  clear hg hs hs4 hW2 b0 b1 hb hP hok hsk hfr hto hpo
  by_cases t0 : sk < s
  case neg =>
    have f0 : decide (sk < s) = false := decide_eq_false t0
    have HF : Hid (goodP s w ⟨5, od, po, L, T, M, sk, fr, to, q⟩ = false) := Lib.hid (by rw [HG.out]; rw [decide_eq_false t0]; simp)
    go_enter Tryd.func19, Tryd.ntmps19
    go_wp2_with fail
    go_ret
    rw [HW.out]
    exact ⟨by rw [HF.out]; rfl, HB.out.trans ((Below.refl _ _).mono HB.out.size)⟩
  have f0 : decide (sk < s) = true := decide_eq_true t0
  by_cases t1 : to < w
  case neg =>
    have f1 : decide (to < w) = false := decide_eq_false t1
    have HF : Hid (goodP s w ⟨5, od, po, L, T, M, sk, fr, to, q⟩ = false) := Lib.hid (by rw [HG.out]; rw [decide_eq_false t1]; simp)
    go_enter Tryd.func19, Tryd.ntmps19
    go_wp2_with fail
    go_ret
    rw [HW.out]
    exact ⟨by rw [HF.out]; rfl, HB.out.trans ((Below.refl _ _).mono HB.out.size)⟩
  have f1 : decide (to < w) = true := decide_eq_true t1
  by_cases t2 : 1 ≤ q
  case neg =>
    have f2 : decide (1 ≤ q) = false := decide_eq_false t2
    have HF : Hid (goodP s w ⟨5, od, po, L, T, M, sk, fr, to, q⟩ = false) := Lib.hid (by rw [HG.out]; rw [decide_eq_false t2]; simp)
    go_enter Tryd.func19, Tryd.ntmps19
    go_wp2_with fail
    go_ret
    rw [HW.out]
    exact ⟨by rw [HF.out]; rfl, HB.out.trans ((Below.refl _ _).mono HB.out.size)⟩
  have f2 : decide (1 ≤ q) = true := decide_eq_true t2
  obtain ⟨a0, a1, a2, a3, a4, a5, a6, a7, a8, a9⟩ := HC.out W2 (Below.refl _ _)
  go_enter Tryd.func19, Tryd.ntmps19
  go_wp2_with fail
  rw [HW.out]
  have hc0 := HFI.out W2 (Below.refl _ _)
  refine hc0.mono ?_
  rintro e w0 ⟨rfl, hb0⟩
  have HB0 : Hid (Below W2.heap.size W2 w0) := Lib.hid (hb0)
  clear hc0 hb0 a0 a1 a2 a3 a4 a5 a6 a7 a8 a9
  obtain ⟨a0, a1, a2, a3, a4, a5, a6, a7, a8, a9⟩ := HC.out w0 HB0.out
  cases t3 : fillsB sk to q T
  case false =>
    have HF : Hid (goodP s w ⟨5, od, po, L, T, M, sk, fr, to, q⟩ = false) := Lib.hid (by rw [HG.out]; rw [t3]; simp)
    go_wp2_with fail
    go_ret
    exact ⟨by rw [HF.out]; rfl, HB.out.trans (HB0.out.mono HB.out.size)⟩
  have HF : Hid (goodP s w ⟨5, od, po, L, T, M, sk, fr, to, q⟩ = decide ((⟨5, od, po, L, T, M, sk, fr, to, q⟩ : Pg) = ⟨5, 0, 0, [], T, [], sk, 0, to, q⟩)) := Lib.hid (by rw [HG.out, decide_eq_true t0, decide_eq_true t1, decide_eq_true t2, t3]; simp)
  clear HG
  generalize decide ((⟨5, od, po, L, T, M, sk, fr, to, q⟩ : Pg) = ⟨5, 0, 0, [], T, [], sk, 0, to, q⟩) = bb at *
  obtain ⟨b0, b1, b2, b3, b4, b5, b6, b7, b8, b9⟩ := HD.out w0 HB0.out
  go_wp2_with fail
  refine (HSA.out w0 HB0.out).mono ?_
  rintro e w9 ⟨rfl, hb9⟩
  have HB9 := Lib.hid (HB0.out.trans (hb9.mono HB0.out.size))
  clear hb9 a0 a1 a2 a3 a4 a5 a6 a7 a8 a9 b0 b1 b2 b3 b4 b5 b6 b7 b8 b9
  go_wp2_with fail
  go_ret
  exact ⟨by rw [HF.out]; rfl, HB.out.trans (HB9.out.mono HB.out.size)⟩
end Go.Proofs.YtdcanppiiikjgaaDoor
