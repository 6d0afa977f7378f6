/- Two lists that are the same; the chapter's example. -/
import Derived.Test.YtmadneedeheekaaDoorFrameScan
import Derived.Test.YtmadneedeheekaaDoorWireOk
import Derived.Test.YtmadneedeheekaaDoorCrcWorks
import Derived.Lib.SlBytesConst
namespace Go.Proofs.YtmadneedeheekaaDoor
open Go.RowKit Go.ChangeShapes Go.WideShapes
set_option linter.unusedVariables false
set_option maxRecDepth 10000

set_option maxHeartbeats 1000000 in
theorem same_ls (p q : Option Addr) (n c d : Nat) (H K : List Hd) (Ls : List (List Nat)) (w : World) (h : LS w p n c H Ls) (g : LS w q n d K Ls) (hn : n ≤ 100000) :
    Calls Tryd.prog 15 #[.slice p n c, .slice q n d] w fun e w' => e = .returned (.bool true) ∧ Below w.heap.size w w' := by
  have HA := Lib.hid h
  have HB := Lib.hid g
  clear h g
  go_enter Tryd.func15, Tryd.ntmps15
  go_wp2_with fail
  go_loopw [5] (fun i wr => ∃ j : Nat, j ≤ n ∧ i = .int .i64 (j : Nat) ∧ Hid (Below w.heap.size w wr)) (fun i _ => n - (intOf i).toNat)
  case atStart => exact ⟨0, Nat.zero_le _, rfl, Lib.hid (Below.refl _ _)⟩
  case round =>
    obtain ⟨j, hj, rfl, HBr⟩ := hrel
    by_cases hlt : j < n
    · have ha := HA.out.later HBr.out
      have hb := HB.out.later HBr.out
      obtain ⟨b1, o1, rfl, _, hc1⟩ := ha.at (by omega)
      obtain ⟨b2, o2, rfl, _, hc2⟩ := hb.at (by omega)
      have x1 := fun r : After wr => cell_after r (hc1 j hlt)
      have x2 := fun r : After wr => cell_after r (hc2 j hlt)
      have y1 := fun r : After wr => conv_sl ((ha.each j hlt).1.later r.h)
      have y2 := fun r : After wr => conv_sl ((hb.each j hlt).1.later r.h)
      generalize strOf (Ls.getD j []) = st at *
      generalize H.getD j hd0 = h1 at *
      generalize K.getD j hd0 = h2 at *
      obtain ⟨h1a, h1b, h1c⟩ := h1
      obtain ⟨h2a, h2b, h2c⟩ := h2
      clear ha hb hc1 hc2
      go_wp2_with fail
      refine wp_region_after (by kernel_rfl) (by kernel_rfl) ?_
      repeat (go_big_quiet_step (fail))
      refine wpQuiet_nil ?_
      intro w4 hw'
      obtain ⟨⟨wq, h6⟩, hw''⟩ := hw'
      subst hw''
      have HB4 := Lib.hid (HBr.out.trans (h6.mono HBr.out.size))
      clear x1 x2 y1 y2 h6
      go_wp2_with fail
      go_roundw
      case rel => exact ⟨j + 1, by omega, by go_num, HB4⟩
      case measure => simp [intOf]; omega
    · obtain rfl : j = n := by omega
      go_wp2_with fail
      go_ret
      exact ⟨rfl, HBr.out⟩
theorem str_frame : ((strOf [1, 0, 67, 190, 183, 232, 97]).toList == [1, 0, 67, 190, 183, 232, 97]) = true := by
  rw [show (strOf [1, 0, 67, 190, 183, 232, 97]).toList = [1, 0, 67, 190, 183, 232, 97].map UInt8.ofNat by simp [strOf]]
  rfl
theorem frm_a : putL [97] = [1, 0, 67, 190, 183, 232, 97] := by decide +kernel
theorem works10 (w : World) (hT : Tab w) :
    Calls Tryd.prog 10 #[] w fun e w' => e = .returned (.bool true) ∧ Below w.heap.size w w' := by
  have HT := Lib.hid hT
  have kc := fun (w : World) (C : Array Value) (n c : Nat) => Lib.run_convert_bytes_const (P := Tryd.prog) w 22 5 C n c Tryd.underlying22 Tryd.underlying5
  have hb : Below w.heap.size w (w.alloc (.cells #[.int .u8 97] 5 (1, 2))) := (Below.refl _ _).alloc (Nat.le_refl _) _
  have HT2 := Lib.hid (HT.out.later hb HT.out.lt)
  have HS : Hid (Sl (w.alloc (.cells #[.int .u8 97] 5 (1, 2))) (some ⟨w.heap.size, 0, none⟩) 1 1 [97]) := Lib.hid ⟨rfl, Nat.le_refl _, (fun h => by cases h), (fun y hy => by simp at hy; omega), fun _ => ⟨_, 0, rfl, fun j hj => by
    match j, hj with
    | 0, _ => rw [World.cell?_alloc_mark]; rfl⟩⟩
  have HB := Lib.hid hb
  clear hT hb
  go_enter Tryd.func10, Tryd.ntmps10
  go_wp2_with fail
  refine (fput_any _ _ _ [97] _ HS.out (by omega) HT2.out).mono ?_
  rintro e w1 ⟨p1, c1, rfl, hs, hb, _, _⟩
  rw [show putE [97] = 0 by rfl]
  rw [frm_a] at hs ⊢
  have hcv : (convert 22 9 (.slice p1 7 c1)).run Tryd.prog w1 = .ok (.string (strOf [1, 0, 67, 190, 183, 232, 97])) w1 := conv_sl hs
  have HB1 := Lib.hid (HB.out.trans (hb.mono HB.out.size))
  have hst := str_frame
  clear hs hb kc
  go_wp2_with fail
  refine (size_any _ _).mono ?_
  rintro e w2 ⟨rfl, rfl⟩
  rw [show sizeI 1 = 7 by rfl]
  go_wp2_with fail
  go_ret
  exact ⟨rfl, HB1.out⟩
end Go.Proofs.YtmadneedeheekaaDoor
