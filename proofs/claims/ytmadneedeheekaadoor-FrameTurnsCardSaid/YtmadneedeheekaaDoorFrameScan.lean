/- frame.Scan: what it answers. -/
import Derived.Test.YtmadneedeheekaaDoorFrameRefScan
namespace Go.Proofs.YtmadneedeheekaaDoor
open Go.RowKit Go.ChangeShapes Go.WideShapes
set_option linter.unusedVariables false

theorem scan_any (p : Option Addr) (n c : Nat) (B : List Nat) (w : World) (hS : Sl w p n c B) (hc : c ≤ maxLen) (hn : n ≤ 100000) (hT : Tab w) :
    Calls Tryd.prog 13 #[.slice p n c] w (GivesS w (scan B)) := by
  have HS := Lib.hid hS
  have HT := Lib.hid hT
  have hl := hS.len
  have hcap := hS.cap
  have hc0 := hc
  have HNIL : Hid (FL w w (.slice none 0 0) [] []) := Lib.hid (FL.nil w w (Below.refl _ _))
  have HSC := Lib.hid (Sc.start B)
  unfold maxLen at hc
  clear hS hT
  go_enter Tryd.func13, Tryd.ntmps13
  go_wp2_with fail
  go_step3
  go_wp2_with fail
  go_step3
  go_wp2_with fail
  go_loopw [5, 6, 7] (fun v i x7 wr => ∃ (j m cv : Nat) (pv : Option Addr) (H : List Hd) (out : List (List Nat)), v = .slice pv m cv ∧ i = .int .i64 (j : Nat) ∧ x7 = .int .i64 0 ∧ j ≤ n ∧ m ≤ j ∧ Hid (out.length = m) ∧ Hid (Sc B out j) ∧ Hid (FL w wr (.slice pv m cv) H out)) (fun _ i _ _ => n - (intOf i).toNat)
  case atStart => exact ⟨0, 0, 0, none, [], [], rfl, rfl, rfl, Nat.zero_le _, Nat.le_refl _, Lib.hid rfl, HSC, HNIL⟩
  case round =>
    obtain ⟨j, m, cv, pv, H, out, rfl, rfl, rfl, hj, hmj, HM, HJ, HF⟩ := hrel
    by_cases hlt : j < n
    · obtain ⟨b, off, hp, hbl, _⟩ := HS.out.blk (by omega)
      subst hp
      have HD : Hid (Sl wr (some ⟨b, off + j, none⟩) (n - j) (c - j) (B.drop j)) := Lib.hid (by
        have := sl_mid (HS.out.later HF.out.below) j (n - j) (by omega)
        rwa [List.take_of_length_le (by rw [List.length_drop]; omega)] at this)
      have HN : Hid (Calls Tryd.prog 11 #[.slice (some ⟨b, off + j, none⟩) (n - j) (c - j)] wr (GivesN wr (some ⟨b, off + j, none⟩) (nextL (B.drop j)) (nextZ (B.drop j)) (nE (B.drop j)))) := Lib.hid (next_any _ _ _ (B.drop j) wr HD.out (by omega) (by omega) (HT.out.later HF.out.below HT.out.lt))
      clear HD
      by_cases he : nE (B.drop j) = 0
      · have hst := HJ.out.step he
        have hz := nE_zero he
        rw [List.length_drop] at hz
        have hd := next_ok he
        rw [hd.1, hd.2, he] at HN
        have HST := Lib.hid hst
        have hfew : 7 * (m + 1) ≤ j + (6 + nN (B.drop j)) := by
          have := hst.few
          rw [List.length_append, HM.out, List.length_singleton] at this
          exact this
        have HPL := Lib.hid (nP_len he)
        have hP1 : Hid ((nP (B.drop j)).length = nN (B.drop j)) := HPL
        clear hst hd he HJ
        generalize nN (B.drop j) = k at *
        generalize nP (B.drop j) = P at *
        go_wp2_with fail
        refine HN.out.mono ?_
        rintro e w1 ⟨p1, c1, rfl, hs1, hb1, hm1, hq1⟩
        have HG := Lib.hid (scan_push hP1.out HM.out HF.out (b := b) (off := off + j) hbl hs1 hb1 hm1 hq1)
        rw [hP1.out]
        clear hs1 hb1 hq1
        go_wp2_with (at_builtin; refine wpList_append_hd rfl _ _ rfl _ _ H rfl (HG.out.1 _ _ _) (by omega) (p1, k, c1) _ rfl (by first | (rw [World.cell?_alloc_mark]; rfl) | simp) ?_)
        intro v' w2 ho hc2 hk2
        obtain ⟨p2, c2, hv2, HF2⟩ := HG.out.2 _ _ _ v' w2 ho hc2 hk2
        subst hv2
        replace HF2 := Lib.hid HF2
        clear ho hc2 hk2 HG
        go_wp2_with fail
        go_roundw
        case rel => exact ⟨j + (6 + k), m + 1, c2, p2, _, _, by go_num, by go_num, rfl, by omega, by omega, Lib.hid (by rw [List.length_append, HM.out, List.length_singleton]), HST, HF2⟩
        case measure => simp [intOf]; omega
      · have hw := HJ.out.wrong (by omega) he
        have hd := next_bad he
        rw [hd.1, hd.2] at HN
        have HW := Lib.hid hw
        have he1 : (nE (B.drop j) != 0) = true := by simpa using he
        clear hw hd HJ
        generalize nE (B.drop j) = x at *
        go_wp2_with fail
        refine HN.out.mono ?_
        rintro e w1 ⟨p1, c1, rfl, _, hb1, _, _⟩
        have HF1 := Lib.hid ((HF.out.later hb1).gives HM.out HW.out)
        clear hb1
        go_wp2_with fail
        try rw [Exit.noGoto_ret]
        go_ret3
        exact HF1.out
    · obtain rfl : j = n := by omega
      have hsc : scan B = (out, j, 0) := by
        have h1 := HJ.out
        rw [← hl] at h1
        rw [h1.done, hl]
      have HF1 := Lib.hid (HF.out.gives HM.out hsc)
      clear hsc
      go_wp2_with fail
      try rw [Exit.noGoto_ret]
      go_ret3
      exact HF1.out
end Go.Proofs.YtmadneedeheekaaDoor
