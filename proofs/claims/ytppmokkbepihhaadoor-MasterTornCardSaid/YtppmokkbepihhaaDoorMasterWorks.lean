/- The chapter's example. -/
import Derived.Test.YtppmokkbepihhaaDoorMasterPick
import Derived.Test.YtppmokkbepihhaaDoorMasterEnc
namespace Go.Proofs.YtppmokkbepihhaaDoor
open Go.RowKit Go.ChangeShapes Go.WideShapes
set_option linter.unusedVariables false
set_option linter.unusedSimpArgs false
set_option maxRecDepth 10000

def m3 : Mv := ⟨3, 1, 5, 9, 77⟩
theorem m3_ok : m3.ok := ⟨by decide, by decide, by decide, by decide, by decide⟩
theorem m3_good : goodM m3 = true := by decide
theorem menc_three (w : World) (hT : Tab w) : Calls Tryd.prog 7 #[.agg #[.int .u64 3, .int .u8 1, .int .i64 5, .int .i64 9, .int .i64 77]] w (GivesE w (bytesM m3) 0) := by
  have h := menc_any m3 m3_ok w hT
  rw [(encL_good m3_good).1, (encL_good m3_good).2] at h
  exact h
theorem zeros_bad : dE (List.replicate 64 0) = 9 := by decide +kernel
theorem pick_three : pickV (List.replicate 64 0) (bytesM m3) = m3 ∧ pickK (List.replicate 64 0) (bytesM m3) = 1 ∧ pickE (List.replicate 64 0) (bytesM m3) = 0 := by
  have h1 := dE_bytes m3_ok m3_good []
  have h2 := dV_bytes m3_ok m3_good []
  rw [List.append_nil] at h1 h2
  have hno : ¬ (dE (List.replicate 64 0) = 0 ∧ (dE (bytesM m3) ≠ 0 ∨ (dV (bytesM m3)).g ≤ (dV (List.replicate 64 0)).g)) := fun h => by rw [zeros_bad] at h; omega
  unfold pickV pickK pickE
  rw [if_neg hno, if_neg hno, if_pos h1, if_pos (.inr h1), h2]
  exact ⟨rfl, rfl, rfl⟩
theorem mpick_three (p q : Option Addr) (c d : Nat) (w : World) (hA : Sl w p 64 c (List.replicate 64 0)) (hB : Sl w q 45 d (bytesM m3)) (hc : c ≤ maxLen) (hd : d ≤ maxLen) (hT : Tab w) :
    Calls Tryd.prog 14 #[.slice p 64 c, .slice q 45 d] w fun e w' => e = .returned (.tuple #[.agg #[.int .u64 3, .int .u8 1, .int .i64 5, .int .i64 9, .int .i64 77], .int .i64 1, .int .i64 0]) ∧ Below w.heap.size w w' := by
  have h := mpick_any p q 64 c 45 d _ _ w hA hB hc hd (by omega) (by omega) hT
  rw [pick_three.1, pick_three.2.1, pick_three.2.2] at h
  exact h
theorem made64 (w : World) : (Instr.makeSlice 25 (.int .i64 64) (.int .i64 64)).run Tryd.prog w = .ok (.slice (some ⟨w.heap.size, 0, none⟩) 64 64) (w.alloc (.cells (vB (zi (List.replicate 64 0))).toArray 5)) := made_bytes 64 (by omega) w
set_option maxHeartbeats 1000000 in
theorem works16 (w : World) (hT : Tab w) : Calls Tryd.prog 13 #[] w fun e w' => e = .returned (.bool true) ∧ Below w.heap.size w w' := by
  have HT := Lib.hid hT
  clear hT
  have hmk := made64
  go_enter Tryd.func13, Tryd.ntmps13
  go_wp2_with fail
  refine (menc_three _ HT.out).mono ?_
  rintro e w1 ⟨p, c, rfl, h1, hb1, h3, h4⟩
  rw [bytesM_len] at h1 ⊢
  have HT1 := Lib.hid (HT.out.later hb1 HT.out.lt)
  have HB1 := Lib.hid hb1
  have hba : Below w1.heap.size w1 (w1.alloc (.cells (vB (zi (List.replicate 64 0))).toArray 5)) := (Below.refl _ _).alloc (Nat.le_refl _) _
  have hbl := BL.of_row (n := 64) (off := 0) (c := 64) (alloc_block w1 (.cells (vB (zi (List.replicate 64 0))).toArray 5)) (by rw [zi_len, List.length_replicate]; omega) (Nat.le_refl _) (by unfold maxLen; omega)
  rw [List.drop_zero, List.take_of_length_le (by rw [zi_len, List.length_replicate]; omega)] at hbl
  have HZ := Lib.hid (hbl.sl (fun x hx => by rw [List.eq_of_mem_replicate hx]; omega)).1
  have HS := Lib.hid (h1.later hba)
  have HTA := Lib.hid (HT1.out.later hba HT1.out.lt)
  have HBA := Lib.hid (HB1.out.trans (hba.mono HB1.out.size))
  have HM := Lib.hid h4
  clear h1 hb1 h3 h4 hba hbl
  go_wp2_with fail
  refine (mpick_three _ _ _ _ _ HZ.out HS.out (by unfold maxLen; omega) HM.out HTA.out).mono ?_
  rintro e w2 ⟨rfl, hb2⟩
  have hbn := ((Below.refl w2.heap.size w2).alloc (Nat.le_refl _) (.cells #[.int .u64 3, .int .u8 1, .int .i64 5, .int .i64 9, .int .i64 77] 24))
  have HB2 := Lib.hid (HBA.out.trans ((hb2.trans (hbn.mono hb2.size)).mono HBA.out.size))
  clear hb2 hbn hmk
  go_wp2_with fail
  go_ret
  exact ⟨rfl, HB2.out⟩
end Go.Proofs.YtppmokkbepihhaaDoor
