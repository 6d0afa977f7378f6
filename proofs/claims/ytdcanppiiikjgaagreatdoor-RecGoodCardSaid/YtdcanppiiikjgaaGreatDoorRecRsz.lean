/- The document's Size of a record. -/
import Derived.Test.YtdcanppiiikjgaaGreatDoorRecRgood
import Derived.Test.YtdcanppiiikjgaaGreatDoorRecRbytes
namespace Go.Proofs.YtdcanppiiikjgaaGreatDoor
open Go.RowKit Go.ChangeShapes Go.WideShapes
set_option linter.unusedVariables false
set_option linter.unusedSimpArgs false
set_option maxRecDepth 10000

theorem rrec_bytes (r : Rv) (L : List Ln) (T : List Tk) (M : List Ln) (W : World) (hP : RvM W r L T M) (hok : Rxok (r.x L T M)) (h1 : r.ln ≤ 20 ∧ r.tn ≤ 30 ∧ r.wn ≤ 20) (hg : goodX (r.x L T M) = true) : Calls Tryz.prog 16 #[.agg (rcs r)] W (Copied W (bytesX (r.x L T M)).length (bytesX (r.x L T M))) := by
  have hk : kOk r.k = true := goodX_kOk hg
  rcases kOk_cases hk with h | h | h | h | h | h | h | h | h
  · exact rrec_bytes1 r L T M W hP hok h1 h (by have := goodX_prog hg; rw [show (r.x L T M).k = 1 from h] at this; exact this)
  · exact rrec_bytes2 r L T M W hP hok h1 h
  · exact rrec_bytes3 r L T M W hP hok h1 h
  · exact rrec_bytes4 r L T M W hP hok h1 h
  · exact rrec_bytes5 r L T M W hP hok h1 h
  · exact rrec_bytes6 r L T M W hP hok h1 h
  · exact rrec_bytes7 r L T M W hP hok h1 h
  · exact rrec_bytes8 r L T M W hP hok h1 h
  · exact rrec_bytes9 r L T M W hP hok h1 h
set_option maxHeartbeats 2000000 in
theorem rsize_x (r : Rv) (L : List Ln) (T : List Tk) (M : List Ln) (W : World) (hP : RvM W r L T M) (hok : Rxok (r.x L T M)) (h1 : r.ln ≤ 20 ∧ r.tn ≤ 30 ∧ r.wn ≤ 20) : Calls Tryz.prog 10 #[.agg (rcs r)] W fun e w' => e = .returned (.int .i64 (sizeX (r.x L T M))) ∧ Below W.heap.size W w' := by
  obtain ⟨W1, hW1, hb1⟩ : ∃ W1, W.alloc (.cells (rcs r) 30) = W1 ∧ Below W.heap.size W W1 := ⟨_, rfl, (Below.refl _ _).alloc (Nat.le_refl _) _⟩
  obtain ⟨B, hB⟩ : ∃ B, W.heap.size = B := ⟨_, rfl⟩
  have hrb := RB.new W r
  rw [hW1, hB] at hrb
  have HX1 := Lib.hid hrb
  have HW1 := Lib.hid hW1
  have HB1 := Lib.hid hb1
  have HRE := Lib.hid hB
  have hgd := rrec_good r L T M W1 (hP.later hb1) hok ⟨by omega, by omega, by omega⟩
  have HBY := Lib.hid (fun (hg : goodX (r.x L T M) = true) w (h : Below W1.heap.size W1 w) => rrec_bytes r L T M w (hP.later (hb1.trans (h.mono hb1.size))) hok h1 hg)
  clear hW1 hB hb1 hrb hP hok h1
  cases hg : goodX (r.x L T M) with
  | false =>
    have HG : Hid (sizeX (r.x L T M) = 0) := Lib.hid (by unfold sizeX; rw [hg]; rfl)
    rw [hg] at hgd
    clear hg
    go_enter Tryz.func10, Tryz.ntmps10
    go_upto_region 1 with (fail)
    rw [HW1.out, HRE.out]
    go_wp2_with ((with_reducible refine wpList_load_rc HX1.out ?_ ?_); rfl)
    refine hgd.mono ?_
    rintro e w2 ⟨rfl, hb2⟩
    have HB2 := Lib.hid (HB1.out.trans (hb2.mono HB1.out.size))
    clear hb2 hgd
    go_wp2_with fail
    go_ret
    exact ⟨by rw [HG.out]; rfl, HB2.out⟩
  | true =>
    have hl := good_len hg
    have HG : Hid (sizeX (r.x L T M) = 6 + ((bytesX (r.x L T M)).length : Int)) := Lib.hid (if_pos hg)
    have hby := HBY.out hg
    rw [hg] at hgd
    clear hg
    generalize bytesX (r.x L T M) = Y at *
    generalize Y.length = n at *
    go_enter Tryz.func10, Tryz.ntmps10
    go_upto_region 1 with (fail)
    rw [HW1.out, HRE.out]
    go_wp2_with ((with_reducible refine wpList_load_rc HX1.out ?_ ?_); rfl)
    refine hgd.mono ?_
    rintro e w2 ⟨rfl, hb2⟩
    have HB2 := Lib.hid (HB1.out.trans (hb2.mono HB1.out.size))
    have HX2 := Lib.hid (HX1.out.later hb2)
    have hby2 := hby w2 hb2
    clear hb2 hgd hby
    go_wp2_with ((with_reducible refine wpList_load_rc HX2.out ?_ ?_); rfl)
    refine hby2.mono ?_
    rintro e w3 ⟨v, rfl, hrow, hb3, _⟩
    obtain ⟨p3, c3, hv, _, _, _⟩ := hrow.sl
    subst hv
    have HB3 := Lib.hid (HB2.out.trans (hb3.mono HB2.out.size))
    clear hrow hb3 hby2
    go_wp2_with fail
    go_ret
    exact ⟨by rw [HG.out]; rfl, HB3.out⟩
end Go.Proofs.YtdcanppiiikjgaaGreatDoor
