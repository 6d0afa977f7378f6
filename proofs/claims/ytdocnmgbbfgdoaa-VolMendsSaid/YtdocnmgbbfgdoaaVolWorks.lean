/- The chapter's example. -/
import Derived.Test.YtdocnmgbbfgdoaaVolTear
import Derived.Lib.SlBytesConst
namespace Go.Proofs.Ytdocnmgbbfgdoaa
open Go.RowKit Go.ChangeShapes Go.WideShapes
set_option linter.unusedVariables false
set_option linter.unusedSimpArgs false

/-- Some bytes in a new block. -/
theorem bytes_new (w : World) (L : List Int) (hl : L.length ≤ 1000) : BL (w.alloc (.cells (vB L).toArray 5)) (some ⟨w.heap.size, 0, none⟩) L.length L.length L := by
  have := BL.of_row (n := L.length) (off := 0) (c := L.length) (alloc_block w (.cells (vB L).toArray 5)) (by omega) (Nat.le_refl _) (by unfold maxLen; omega)
  rwa [List.drop_zero, List.take_of_length_le (Nat.le_refl _)] at this
theorem bytes_mark (w : World) (L : List Int) (m : Nat × Nat) (hl : L.length ≤ 1000) : BL (w.alloc (.cells (vB L).toArray 5 m)) (some ⟨w.heap.size, 0, none⟩) L.length L.length L := by
  refine BL.mk rfl (Nat.le_refl _) (by unfold maxLen; omega) (fun h => by cases h) fun h0 => ⟨w.heap.size, 0, rfl, by simp, fun j hj => ?_⟩
  rw [World.cell?_alloc_mark, List.getElem?_toArray, Nat.zero_add]
  exact vB_at L j hj
set_option maxHeartbeats 2000000 in
theorem vol_works (w : World) : Calls Try.prog 8 #[] w fun e w' => e = .returned (.bool true) ∧ Below w.heap.size w w' := by
  have kc := fun (w : World) (C : Array Value) (n c : Nat) => Lib.run_convert_bytes_const (P := Try.prog) w 33 5 C n c Try.underlying33 Try.underlying5
  have hn := new_any 2 4 w
  rw [show kp 2 1024 = 2 by rfl, show kp 4 4096 = 4 by rfl] at hn
  go_enter Try.func8, Try.ntmps8
  go_wp2_with fail
  refine hn.mono ?_
  rintro e W1 ⟨rfl, hv1, hb1⟩
  have hbx : Below W1.heap.size W1 (W1.alloc (.cells (vB [97, 98, 99, 100]).toArray 5 (4, 5))) := (Below.refl _ _).alloc (Nat.le_refl _) _
  have hlt1 := block_lt hv1.row
  have hp := put_any w.heap.size (w.heap.size + 1) 4 (zeroV 2 4) 1 (some ⟨W1.heap.size, 0, none⟩) 4 4 [97, 98, 99, 100] _ (hv1.later hbx) (bytes_mark W1 [97, 98, 99, 100] (4, 5) (by decide)) (fun _ a ha => by cases ha; exact Nat.ne_of_gt hlt1)
  rw [show tearE 4 (zeroV 2 4) 1 [97, 98, 99, 100] = 0 by rfl, show tearV 4 (zeroV 2 4) 1 [97, 98, 99, 100] 4 = [[0, 0, 0, 0], [97, 98, 99, 100]] by rfl, show (vB [97, 98, 99, 100]).toArray = #[.int .u8 97, .int .u8 98, .int .u8 99, .int .u8 100] by rfl] at hp
  have HB1 := Lib.hid (hb1.trans (hbx.mono hb1.size))
  clear hn hv1 hb1 hbx hlt1
  go_wp2_with fail
  refine hp.mono ?_
  rintro e W2 ⟨rfl, hv2, hc2⟩
  have hb2 := hc2.below HB1.out HB1.out.size (fun k hk => by omega)
  have hbx : Below W2.heap.size W2 (W2.alloc (.cells (vB [120, 121]).toArray 5 (2, 3))) := (Below.refl _ _).alloc (Nat.le_refl _) _
  have hlt2 := block_lt hv2.row
  have ht := tear_any w.heap.size (w.heap.size + 1) 4 [[0, 0, 0, 0], [97, 98, 99, 100]] 1 3 (some ⟨W2.heap.size, 0, none⟩) 2 2 [120, 121] _ (hv2.later hbx) (bytes_mark W2 [120, 121] (2, 3) (by decide)) (fun _ a ha => by cases ha; exact Nat.ne_of_gt hlt2)
  rw [show tearE 4 [[0, 0, 0, 0], [97, 98, 99, 100]] 1 [120, 121] = 0 by rfl, show tearV 4 [[0, 0, 0, 0], [97, 98, 99, 100]] 1 [120, 121] (kp 3 (4 : Nat)) = [[0, 0, 0, 0], [120, 121, 0, 100]] by rfl, show (vB [120, 121]).toArray = #[.int .u8 120, .int .u8 121] by rfl] at ht
  have HB2 := Lib.hid (hb2.trans (hbx.mono hb2.size))
  clear hp hv2 hc2 hb2 hbx hlt2
  go_wp2_with fail
  refine ht.mono ?_
  rintro e W3 ⟨rfl, hv3, hc3⟩
  have hb3 := hc3.below HB2.out HB2.out.size (fun k hk => by omega)
  have hbk := block_any w.heap.size (w.heap.size + 1) 4 [[0, 0, 0, 0], [120, 121, 0, 100]] 1 W3 hv3 (by decide)
  have HV3 := Lib.hid hv3
  have HB3 := Lib.hid hb3
  clear ht hv3 hc3 hb3
  go_wp2_with fail
  refine hbk.mono ?_
  rintro e W4 ⟨p, c, rfl, hbl, hb4⟩
  have hcv := conv_bl hbl
  rw [show strOfNums (List.getD [[0, 0, 0, 0], [120, 121, 0, 100]] 1 []) = ⟨#[120, 121, 0, 100]⟩ by rfl] at hcv
  have h1 := blocks_any _ _ _ _ W4 (HV3.out.later hb4)
  have h2 := size_any _ _ _ _ W4 (HV3.out.later hb4)
  have HB4 := Lib.hid (HB3.out.trans (hb4.mono HB3.out.size))
  clear hbk hbl hb4
  go_wp2_with fail
  refine h1.mono ?_
  rintro e W5 ⟨rfl, rfl⟩
  go_wp2_with fail
  refine h2.mono ?_
  rintro e W6 ⟨rfl, rfl⟩
  go_wp2_with fail
  go_ret
  exact ⟨rfl, HB4.out⟩
end Go.Proofs.Ytdocnmgbbfgdoaa
