/- The chapter's example; few items. -/
import Derived.Test.YtnmdplefedffnaaDoorStepOps
import Derived.Test.YtnmdplefedffnaaDoorStepWord
import Derived.Test.YtnmdplefedffnaaDoorOpSame
namespace Go.Proofs.YtnmdplefedffnaaDoor
open Go.RowKit Go.ChangeShapes Go.WideShapes
set_option linter.unusedVariables false
set_option maxRecDepth 10000

set_option maxHeartbeats 1000000 in
theorem step_works (W : World) (hw : Words W) : Calls Tryd.prog 9 #[] W fun e w' => e = .returned (.bool true) ∧ Below W.heap.size W w' := by
  have hb1 : Below W.heap.size W (W.alloc (.cells #[.int .u8 0, .int .i64 3] 44)) := (Below.refl _ _).alloc (Nat.le_refl _) _
  have hr := alloc_block W (.cells #[.int .u8 0, .int .i64 3] 44)
  have hL : LL (W.alloc (.cells #[.int .u8 0, .int .i64 3] 44)) (some ⟨W.heap.size, 0, none⟩) 1 1 [(0, 3)] := by
    refine ⟨rfl, Nat.le_refl _, by unfold maxLen; omega, (fun h => by cases h), fun _ => ⟨_, 0, rfl, block_lt hr, fun j hj i v hv => ?_⟩⟩
    refine block_cell hr ?_
    have hi : i < 2 := (List.getElem?_eq_some_iff.1 hv).1
    obtain rfl : j = 0 := by omega
    rcases (by omega : i = 0 ∨ i = 1) with rfl | rfl <;> exact hv
  have hop := ops_any 3 1 _ 1 1 [(0, 3)] _ hL (fun x hx => by simp at hx; subst hx; exact ⟨⟨by decide, by decide⟩, by decide, by decide⟩) (by omega)
  have he : opsS 3 1 [((0 : Int), (3 : Int))] = [((2, 0, 1), -3), ((3, 0, 0), 3)] := by decide
  rw [he] at hop
  have hwd := fun W hv => tagword_any 8 (by omega) (by omega) W hv
  have h8 : wordB (8 : Int).toNat = ⟨#[112, 97, 121]⟩ := rfl
  rw [h8] at hwd
  have HW := Lib.hid (hw.later hb1)
  have HB := Lib.hid hb1
  clear hb1 hr hL he h8 hw
  go_enter Tryd.func9, Tryd.ntmps9
  go_wp2_with fail
  generalize W.alloc (.cells #[.int .u8 0, .int .i64 3] 44) = W1 at *
  refine hop.mono ?_
  rintro e w2 ⟨p2, c2, rfl, hs2, hb2, _⟩
  have HB2 := Lib.hid (HB.out.trans (hb2.mono HB.out.size))
  have HW2 := Lib.hid (HW.out.later hb2)
  have hcap : 2 ≤ c2 := hs2.cap
  obtain ⟨b, off, rfl, _, c0, c1, c2', c3⟩ := op_cells hs2 (j := 0) (by decide)
  obtain ⟨b', off', he, _, d0, d1, d2, d3⟩ := op_cells hs2 (j := 1) (by decide)
  cases he
  have a0 : w2.cell? ⟨b, off, none⟩ = some (.int .u8 2) := by simpa using c0
  have a1 : w2.cell? ⟨b, off + 1, none⟩ = some (.int .u8 0) := by simpa using c1
  have a2 : w2.cell? ⟨b, off + 2, none⟩ = some (.int .u8 1) := by simpa using c2'
  have a3 : w2.cell? ⟨b, off + 3, none⟩ = some (.int .i64 (-3)) := by simpa using c3
  have b0 : w2.cell? ⟨b, off + 4, none⟩ = some (.int .u8 3) := by simpa using d0
  have b1 : w2.cell? ⟨b, off + 4 + 1, none⟩ = some (.int .u8 0) := by simpa using d1
  have b2 : w2.cell? ⟨b, off + 4 + 2, none⟩ = some (.int .u8 0) := by simpa using d2
  have b3 : w2.cell? ⟨b, off + 4 + 3, none⟩ = some (.int .i64 3) := by simpa using d3
  have q0 := fun w => op_eql 2 0 1 (-3) 2 0 1 (-3) w
  have q1 := fun w => op_eql 3 0 0 3 3 0 0 3 w
  simp only [decide_true] at q0 q1
  clear hop hs2 hb2 c0 c1 c2' c3 d0 d1 d2 d3
  simp only [List.length_cons, List.length_nil, Nat.zero_add]
  go_wp2_with fail
  refine (hwd _ HW2.out).mono ?_
  rintro e w' ⟨rfl, rfl⟩
  clear hwd
  go_wp2_with fail
  go_ret
  exact ⟨rfl, HB2.out⟩
theorem few_any (t r : Int) (p : Option Addr) (n c : Nat) (W : World) :
    Calls Tryd.prog 8 #[.agg #[.int .u8 t, .int .u8 r, .slice p n c]] W fun e w' => e = .returned (.bool (decide ((n : Int) ≤ 20))) ∧ Below W.heap.size W w' := by
  have HB : Hid (Below W.heap.size W (W.alloc (.cells #[.int .u8 t, .int .u8 r, .slice p n c] 24))) := Lib.hid ((Below.refl _ _).alloc (Nat.le_refl _) _)
  go_enter Tryd.func8, Tryd.ntmps8
  go_wp2_with fail
  go_ret
  exact ⟨rfl, HB.out⟩
end Go.Proofs.YtnmdplefedffnaaDoor
