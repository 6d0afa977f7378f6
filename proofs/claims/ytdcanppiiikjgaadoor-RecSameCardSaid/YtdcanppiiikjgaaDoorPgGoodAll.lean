/- Whether a program may be: the document's way: all kinds. -/
import Derived.Test.YtdcanppiiikjgaaDoorPgGood1
import Derived.Test.YtdcanppiiikjgaaDoorPgGood2
import Derived.Test.YtdcanppiiikjgaaDoorPgGood3
import Derived.Test.YtdcanppiiikjgaaDoorPgGood4
import Derived.Test.YtdcanppiiikjgaaDoorPgGood5
import Derived.Test.YtdcanppiiikjgaaDoorPgGood6
namespace Go.Proofs.YtdcanppiiikjgaaDoor
open Go.RowKit Go.ChangeShapes Go.WideShapes
set_option linter.unusedVariables false
set_option maxRecDepth 10000

theorem goodP_unsized {s w : Int} {P : Pg} (h : sizedB s w = false) : goodP s w P = false := by unfold goodP; rw [h]; rfl
theorem goodP_kind {s w : Int} {P : Pg} (h : P.kind ≠ 1 ∧ P.kind ≠ 2 ∧ P.kind ≠ 3 ∧ P.kind ≠ 4 ∧ P.kind ≠ 5 ∧ P.kind ≠ 6) : goodP s w P = false := by
  unfold goodP askP
  rw [if_neg h.1, if_neg h.2.1, if_neg (by omega), if_neg h.2.2.2.2.1, if_neg h.2.2.2.2.2, Bool.and_false]; rfl
set_option maxHeartbeats 4000000 in
theorem rgood_p (s w : Int) (k od po : Int) (lp : Option Addr) (ln lcp : Nat) (tp : Option Addr) (tn tcp : Nat) (wp : Option Addr) (wn wcp : Nat) (sk fr to q : Int) (L : List Ln) (T : List Tk) (M : List Ln) (W : World) (hP : PgM W lp ln lcp L tp tn tcp T wp wn wcp M) (hok : Pgok ⟨k, od, po, L, T, M, sk, fr, to, q⟩) (h1 : ln ≤ 1000 ∧ tn ≤ 1000 ∧ wn ≤ 1000) :
    Calls Tryd.prog 19 #[.int .i64 s, .int .i64 w, .agg #[.int .u8 k, .int .u32 od, .int .u8 po, .slice lp ln lcp, .slice tp tn tcp, .slice wp wn wcp, .int .u8 sk, .int .u8 fr, .int .u8 to, .int .i64 q]] W fun e w' => e = .returned (.bool (goodP s w ⟨k, od, po, L, T, M, sk, fr, to, q⟩)) ∧ Below W.heap.size W w' := by
  have hb1 : Below W.heap.size W (W.alloc (.cells #[.int .u8 k, .int .u32 od, .int .u8 po, .slice lp ln lcp, .slice tp tn tcp, .slice wp wn wcp, .int .u8 sk, .int .u8 fr, .int .u8 to, .int .i64 q] 28)) := (Below.refl _ _).alloc (Nat.le_refl _) _
  have HB := Lib.hid hb1
  clear hb1
  by_cases y1 : s < 1
  · have HF := Lib.hid (goodP_unsized (P := ⟨k, od, po, L, T, M, sk, fr, to, q⟩) (show sizedB s w = false by unfold sizedB; simp; omega))
    clear hP hok
    go_enter Tryd.func19, Tryd.ntmps19
    go_wp2_with fail
    go_ret
    exact ⟨by rw [HF.out]; rfl, HB.out⟩
  by_cases y2 : 4 < s
  · have HF := Lib.hid (goodP_unsized (P := ⟨k, od, po, L, T, M, sk, fr, to, q⟩) (show sizedB s w = false by unfold sizedB; simp; omega))
    clear hP hok
    go_enter Tryd.func19, Tryd.ntmps19
    go_wp2_with fail
    go_ret
    exact ⟨by rw [HF.out]; rfl, HB.out⟩
  by_cases y3 : w < 1
  · have HF := Lib.hid (goodP_unsized (P := ⟨k, od, po, L, T, M, sk, fr, to, q⟩) (show sizedB s w = false by unfold sizedB; simp; omega))
    clear hP hok
    go_enter Tryd.func19, Tryd.ntmps19
    go_wp2_with fail
    go_ret
    exact ⟨by rw [HF.out]; rfl, HB.out⟩
  by_cases y4 : 4 < w
  · have HF := Lib.hid (goodP_unsized (P := ⟨k, od, po, L, T, M, sk, fr, to, q⟩) (show sizedB s w = false by unfold sizedB; simp; omega))
    clear hP hok
    go_enter Tryd.func19, Tryd.ntmps19
    go_wp2_with fail
    go_ret
    exact ⟨by rw [HF.out]; rfl, HB.out⟩
  have hs : sizedB s w = true := by unfold sizedB; simp; omega
  by_cases k1 : k = 1
  · subst k1
    exact rgood1 s w od po lp ln lcp tp tn tcp wp wn wcp sk fr to q L T M W hs hP hok h1
  by_cases k2 : k = 2
  · subst k2
    exact rgood2 s w od po lp ln lcp tp tn tcp wp wn wcp sk fr to q L T M W hs hP hok h1
  by_cases k3 : k = 3
  · subst k3
    exact rgood3 s w od po lp ln lcp tp tn tcp wp wn wcp sk fr to q L T M W hs hP hok h1
  by_cases k4 : k = 4
  · subst k4
    exact rgood4 s w od po lp ln lcp tp tn tcp wp wn wcp sk fr to q L T M W hs hP hok h1
  by_cases k5 : k = 5
  · subst k5
    exact rgood5 s w od po lp ln lcp tp tn tcp wp wn wcp sk fr to q L T M W hs hP hok h1
  by_cases k6 : k = 6
  · subst k6
    exact rgood6 s w od po lp ln lcp tp tn tcp wp wn wcp sk fr to q L T M W hs hP hok h1
  have HF := Lib.hid (goodP_kind (s := s) (w := w) (P := ⟨k, od, po, L, T, M, sk, fr, to, q⟩) ⟨k1, k2, k3, k4, k5, k6⟩)
  have e1 : (k == 1) = false := by simpa using k1
  have e2 : (k == 2) = false := by simpa using k2
  have e3 : (k == 3) = false := by simpa using k3
  have e4 : (k == 4) = false := by simpa using k4
  have e5 : (k == 5) = false := by simpa using k5
  have e6 : (k == 6) = false := by simpa using k6
  obtain ⟨W2, hW2, _, _, hb⟩ := two_progs W #[.int .u8 k, .int .u32 od, .int .u8 po, .slice lp ln lcp, .slice tp tn tcp, .slice wp wn wcp, .int .u8 sk, .int .u8 fr, .int .u8 to, .int .i64 q] #[.int .u8 k, .int .u32 0, .int .u8 0, .slice none 0 0, .slice tp tn tcp, .slice none 0 0, .int .u8 0, .int .u8 0, .int .u8 0, .int .i64 0]
  have HW := Lib.hid hW2
  have HB2 := Lib.hid hb
  clear hP hok k1 k2 k3 k4 k5 k6 hs hW2 hb
  go_enter Tryd.func19, Tryd.ntmps19
  go_wp2_with fail
  go_ret
  rw [HW.out]
  exact ⟨by rw [HF.out]; rfl, HB2.out⟩
end Go.Proofs.YtdcanppiiikjgaaDoor
