import Derived.Test.YtmdldbchdnkfcaaPA26
import Derived.Test.YtmdldbchdnkfcaaPA24
import Derived.Test.YtmdldbchdnkfcaaPA40
namespace Go.Proofs.Ytmdldbchdnkfcaa
open Go.RowKit Go.ChangeShapes Go.WideShapes
set_option linter.unusedVariables false
set_option linter.unusedSimpArgs false
set_option maxRecDepth 10000
theorem fukeys_any (W : World) (B T : Nat) (mb : Option Nat) (M : List FW) (h : FuT W B T mb M) (hn : M.length ≤ 100) :
 Calls Try.prog 22 #[.pointer (some ⟨B, 0, none⟩)] W fun e w' => ∃ r c, e = .returned (.slice r (keysG M).length c) ∧ KL w' r (keysG M).length c (keysG M) ∧ Below W.heap.size W w' := by
 have HC := Lib.hid (ftkeys_any _ W T mb M h.t (by omega))
 have c0 := block_cell (j := 0) h.b rfl
 generalize keysG M = L at *
 clear h hn
 go_enter Try.func22, Try.ntmps22
 go_wp2_with fail
 clear c0
 refine HC.out.mono ?_
 rintro e1 w1 ⟨p, c, rfl, hk, hb, _⟩
 have HK := Lib.hid hk
 have HB := Lib.hid hb
 clear hk hb HC
 go_wp2_with fail
 go_ret
 exact ⟨p, c, rfl, HK.out, HB.out⟩
theorem fucopy_any (W : World) (B T : Nat) (mb : Option Nat) (M : List FW) (h : FuT W B T mb M) :
 Calls Try.prog 18 #[.pointer (some ⟨B, 0, none⟩)] W fun e w' => ∃ B' Q', e = .returned (.pointer (some ⟨B', 0, none⟩)) ∧ Fu w' B' M Q' ∧ (∀ j, Q' j → W.heap.size ≤ j) ∧ Below W.heap.size W w' := by
 have HC := Lib.hid (ftcopy_any _ W T mb M h.t)
 have c0 := block_cell (j := 0) h.b rfl
 clear h
 go_enter Try.func18, Try.ntmps18
 go_wp2_with fail
 clear c0
 refine HC.out.mono ?_
 rintro e1 w1 ⟨T1, mb1, rfl, ht, hf, hb⟩
 obtain ⟨g1, g2, g3⟩ := fu_made ht hf hb
 have HM := Lib.hid (And.intro g1 (And.intro g2 g3))
 clear ht hf hb HC g1 g2 g3
 go_wp2_with fail
 go_ret
 exact ⟨_, _, rfl, ⟨T1, mb1, HM.out.1, rfl⟩, HM.out.2.1, HM.out.2.2⟩
set_option maxHeartbeats 4000000 in
theorem futry_any (W : World) (B T : Nat) (mb : Option Nat) (M : List FW) (p : Option Addr) (n c : Nat) (L : List O) (h : FuT W B T mb M) (hM : FOk M) (hm : M.length ≤ 100) (hL : OL W p n c L) (hn : n ≤ 100) (hx : ∀ x ∈ L, Ook x) :
 Calls Try.prog 16 #[.pointer (some ⟨B, 0, none⟩), .slice p n c] W fun e w' => e = .returned (.int .i64 (ftryE M L)) ∧ Acted Fu W w' B M (FuQ B T mb) := by
 obtain ⟨z, hz⟩ : ∃ z, ftryE M L = z := ⟨_, rfl⟩
 rw [hz]
 have HZ := Lib.hid hz
 have HL := Lib.hid hL
 have HLN := Lib.hid hL.len
 have HF := Lib.hid h
 have HM := Lib.hid (And.intro hM hm)
 have HOK := Lib.hid fun j (hj : j < n) => ok_at hx (show j < L.length by rw [hL.len]; exact hj)
 have HDR := Lib.hid fun j (hj : j < n) => (show L.drop j = L.getD j o0 :: L.drop (j + 1) by rw [List.drop_eq_getElem_cons (by rw [hL.len]; exact hj), List.getD, List.getElem?_eq_getElem (by rw [hL.len]; exact hj)]; rfl)
 have HCP := Lib.hid (fucopy_any W B T mb M h)
 have hcap := hL.cap
 have hmax := hL.max
 unfold maxLen at hmax
 clear h hL hM hm hx hz
 go_enter Try.func16, Try.ntmps16
 go_wp2_with fail
 refine HCP.out.mono ?_
 rintro e1 w1 ⟨B1, Q1, rfl, hf1, hq1, hb1⟩
 have HF1 := Lib.hid hf1
 have HQ1 := Lib.hid hq1
 have HB1 := Lib.hid hb1
 clear hf1 hq1 hb1 HCP
 go_wp2_with fail
 go_loopw [13] (fun i wr => ∃ (j : Nat) (Q : Nat → Prop) (S : List FW), j ≤ n ∧ i = .int .i64 (j : Int) ∧ Hid (Fu wr B1 S Q) ∧ Hid (∀ q, Q q → W.heap.size ≤ q) ∧ Hid (Below W.heap.size W wr) ∧ Hid (FOk S ∧ S.length ≤ 100 ∧ ftryE S (L.drop j) = z)) (fun i _ => n - (Go.RowKit.intOf i).toNat)
 case atStart => exact ⟨0, Q1, M, Nat.zero_le _, rfl, HF1, HQ1, HB1, Lib.hid ⟨HM.out.1, HM.out.2, HZ.out⟩⟩
 case round =>
  obtain ⟨j, Q, S, hj, rfl, HFS, HQ, HB, HI⟩ := hrel
  by_cases hlt : j < n
  · have t1 : (j : Int) < n := by omega
    obtain ⟨b, off, rfl, hbl, c0, c1, c2, c3⟩ := op_cells (HL.out.later HB.out) hlt
    have hxo := HOK.out j hlt
    have hti := HI.out.2.2
    rw [HDR.out j hlt] at hti
    generalize L.getD j o0 = x at *
    obtain ⟨k, d⟩ := x
    have hti2 : (if fdoE 0 S k d = 0 then ftryE (fdoL 0 S k d) (L.drop (j + 1)) else fdoE 0 S k d) = z := hti
    have hba : Below wr.heap.size wr (wr.alloc (.cells #[.int .u8 k.1, .int .u8 k.2.1, .int .u8 k.2.2, .int .i64 d] 34)) := (Below.refl _ _).alloc (Nat.le_refl _) _
    have HDA := Lib.hid (alloc_block wr (.cells #[.int .u8 k.1, .int .u8 k.2.1, .int .u8 k.2.2, .int .i64 d] 34))
    have HBA := Lib.hid (HB.out.trans (hba.mono HB.out.size))
    obtain ⟨T2, mb2, hft, hqe⟩ := HFS.out
    have HG := Lib.hid (fu_grant k hxo.1 d hxo.2 (wr.alloc (.cells #[.int .u8 k.1, .int .u8 k.2.1, .int .u8 k.2.2, .int .i64 d] 34)) B1 T2 mb2 S (hft.later hba) HI.out.1 (by have := HI.out.2.1; omega))
    have HQQ := Lib.hid hqe
    have hN := HI.out.1.doL 0 k d hxo.1
    have hl := fdoL_length HI.out.1.up 0 k d
    generalize fdoL 0 S k d = S' at *
    generalize fdoE 0 S k d = e0 at *
    have HN := Lib.hid (And.intro hN (show S'.length ≤ 100 by have := HI.out.2.1; omega))
    clear hti hba hft hqe hN hl hxo HB HFS
    go_upto_region 5 with (fail)
    clear c0 c1 c2 c3
    generalize wr.alloc (.cells #[.int .u8 k.1, .int .u8 k.2.1, .int .u8 k.2.2, .int .i64 d] 34) = W1 at *
    generalize wr.heap.size = D at *
    have d0 := block_cell (j := 0) HDA.out rfl
    have d1 := block_cell (j := 1) HDA.out rfl
    have d2 := block_cell (j := 2) HDA.out rfl
    have d3 := block_cell (j := 3) HDA.out rfl
    go_wp2_with fail
    clear d0 d1 d2 d3
    refine HG.out.mono ?_
    rintro e2 w2 ⟨rfl, Q2, hf2, hq2, ht2⟩
    have HF2 := Lib.hid hf2
    have HQ2 : Hid (∀ q, Q2 q → W.heap.size ≤ q) := Lib.hid fun q hq => by
     rcases hq2 q hq with e | e
     · exact HQ.out q (by rw [HQQ.out]; exact e)
     · exact Nat.le_trans HBA.out.size e
    have HB2 := Lib.hid (HBA.out.trans (ht2.below HBA.out.size (fun q hq => HQ.out q (by rw [HQQ.out]; exact hq))))
    clear hf2 hq2 ht2 HG HBA
    by_cases he : e0 = 0
    · rw [if_pos he] at hti2
      have HTI := Lib.hid hti2
      subst he
      clear hti2
      go_wp2_with fail
      go_roundw
      case rel => exact ⟨j + 1, Q2, S', by omega, by go_num, HF2, HQ2, HB2, Lib.hid ⟨HN.out.1, HN.out.2, HTI.out⟩⟩
      case measure =>
       simp [Go.RowKit.intOf]
       omega
    · rw [if_neg he] at hti2
      have ke : (e0 != 0) = true := by simpa using he
      have HE := Lib.hid he
      have HTI := Lib.hid hti2
      clear he hti2
      go_wp2_with fail
      go_ret
      exact ⟨by rw [HTI.out]; rfl, HF.out.stays HB2.out⟩
  · have hjn : n ≤ j := by omega
    have t1 : ¬ (j : Int) < n := by omega
    have hz0 : z = 0 := by
     have h := HI.out.2.2
     rw [List.drop_of_length_le (by rw [HLN.out]; exact hjn)] at h
     exact h.symm
    have HZ0 := Lib.hid hz0
    clear hz0 hjn
    go_wp2_with fail
    go_ret
    exact ⟨by rw [HZ0.out]; rfl, HF.out.stays HB.out⟩
end Go.Proofs.Ytmdldbchdnkfcaa
