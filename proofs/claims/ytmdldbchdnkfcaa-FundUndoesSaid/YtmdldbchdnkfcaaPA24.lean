import Derived.Test.YtmdldbchdnkfcaaPA23
import Derived.Test.YtmdldbchdnkfcaaShelf
import Derived.RangeFuncBox
namespace Go.Proofs.Ytmdldbchdnkfcaa
open Go.RowKit Go.ChangeShapes Go.WideShapes Go.Maps Go.Shelf
set_option linter.unusedVariables false
theorem ftclone_nil (W : World) : Calls Try.prog 61 #[.map none] W fun e w' => e = .returned (.map none) ∧ w' = W := AnyW.maps_Clone_nil Try.cloneM W
theorem ftclone_some {W : World} {b n : Nat} {D : DataW Fv} (h : W.ownsMap Try.prog 32 fldElem b n D) : Calls Try.prog 61 #[.map (some b)] W fun e w' => e = .returned (.map (some W.heap.size)) ∧ w'.ownsMap Try.prog 32 fldElem W.heap.size n D ∧ w'.ownsMap Try.prog 32 fldElem b n D ∧ Below W.heap.size W w' :=
 AnyW.maps_Clone_owns Try.cloneM _ _ b n D W h
def FCopies (W : World) (M : List FW) (e : Ending) (w' : World) : Prop := ∃ B' mb', e = .returned (.pointer (some ⟨B', 0, none⟩)) ∧ FTab 85 w' B' mb' M ∧ (∀ k, foot B' mb' k → W.heap.size ≤ k) ∧ Below W.heap.size W w'
set_option maxHeartbeats 2000000 in
theorem ftcopy_any (T : TypeId) (W : World) (B : Nat) (mb : Option Nat) (M : List FW) (h : FTab T W B mb M) : Calls Try.prog 41 #[.pointer (some ⟨B, 0, none⟩)] W (FCopies W M) := by
 have hBlt := block_lt h.1
 have hb1 : Below W.heap.size W (W.alloc (.cells #[.map none] 85)) := (Below.refl _ _).alloc (Nat.le_refl _) _
 have hT1 := h.later hb1
 have hN1 : (W.alloc (.cells #[.map none] 85)).heap[W.heap.size]? = some (.cells #[.map none] 85 (0, 0)) := alloc_block W _
 have hs1 : (W.alloc (.cells #[.map none] 85)).heap.size = W.heap.size + 1 := by simp
 have HB1 := Lib.hid hb1
 have HT1 := Lib.hid hT1
 have HN1 := Lib.hid hN1
 have c0 := block_cell (j := 0) hT1.1 rfl
 clear h hb1 hT1 hN1
 go_enter Try.func41, Try.ntmps41
 go_wp2_with fail
 refine (ftnew_any _).mono ?_
 rintro e w' ⟨rfl, rfl⟩
 generalize W.alloc (.cells #[.map none] 85) = W1 at *
 cases mb with
 | none =>
  have HM := Lib.hid (HT1.out.2.1 rfl)
  have n0 := block_cell (j := 0) HN1.out rfl
  have f0 := block_free 0 HN1.out
  go_wp2_with fail
  refine (ftclone_nil _).mono ?_
  rintro e w' ⟨rfl, rfl⟩
  go_wp2_with fail
  go_ret
  refine ⟨_, none, rfl, ⟨block_put 0 _ HN1.out, fun _ => HM.out, (fun b hb => by cases hb)⟩, (fun k hk => by rcases hk with rfl | hk; exact Nat.le_refl _; cases hk), ?_⟩
  exact HB1.out.grown (grownBy_setCell' _ _ _) (by omega) (fun k e => by cases e; exact Nat.le_refl _)
 | some b =>
  obtain ⟨hne, D, hown, hT⟩ := HT1.out.2.2 b rfl
  have hc := ftclone_some hown
  have HTm := Lib.hid hT
  clear hown hT
  go_wp2_with fail
  refine hc.mono ?_
  rintro e W2 ⟨rfl, hown2, _, hb2⟩
  have HN2 := Lib.hid (block_later HN1.out hb2)
  have HB2 := Lib.hid (HB1.out.trans (hb2.mono (by omega)))
  have n0 := block_cell (j := 0) HN2.out rfl
  have f0 := block_free 0 HN2.out
  rw [hs1] at hown2
  have HO2 := Lib.hid hown2
  have hs2 := hb2.size
  clear hc hown2 hb2
  go_wp2_with fail
  go_ret
  refine ⟨_, some (W.heap.size + 1), rfl, ⟨block_put 0 _ HN2.out, (fun e => by cases e), fun b' hb => ?_⟩, (fun k hk => by rcases hk with rfl | hk; exact Nat.le_refl _; cases hk; omega), ?_⟩
  · cases hb
    exact ⟨by omega, D, HO2.out.setCell (a := ⟨W.heap.size, 0, none⟩) (by show W.heap.size + 1 ≠ W.heap.size; omega) _, HTm.out⟩
  · exact HB2.out.grown (grownBy_setCell' _ _ _) (by omega) (fun k e => by cases e; exact Nat.le_refl _)
end Go.Proofs.Ytmdldbchdnkfcaa
