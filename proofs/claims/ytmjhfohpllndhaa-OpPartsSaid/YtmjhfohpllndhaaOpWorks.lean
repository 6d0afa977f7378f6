/- The chapter's example. -/
import Derived.Test.YtmjhfohpllndhaaOpNet
import Derived.Test.YtmjhfohpllndhaaOpSame
namespace Go.Proofs.Ytmjhfohpllndhaa
open Go.RowKit Go.ChangeShapes Go.WideShapes
set_option linter.unusedVariables false

def exL : List O := [((4, 0, 0), 5), ((1, 0, 0), -2), ((4, 0, 0), -5)]
theorem ex_net : netV exL = [((1, 0, 0), -2)] ∧ netB exL = true := by decide
theorem ex_ok : ∀ o ∈ exL, Ook o := by
  intro o ho
  simp only [exL, List.mem_cons, List.not_mem_nil, or_false] at ho
  rcases ho with rfl | rfl | rfl <;> exact ⟨⟨by decide, by decide, by decide⟩, by decide, by decide⟩
set_option maxHeartbeats 2000000 in
set_option maxRecDepth 100000 in
theorem op_works (W : World) : Calls Try.prog 12 #[] W fun e w' => e = .returned (.bool true) ∧ Below W.heap.size W w' := by
  obtain ⟨W2, hW2⟩ : ∃ W2, (W.alloc (.cells #[.int .u8 4, .int .u8 0, .int .u8 0] 29)).alloc (.cells #[.int .u8 1, .int .u8 0, .int .u8 0] 29) = W2 := ⟨_, rfl⟩
  have hs2 : W2.heap.size = W.heap.size + 1 + 1 := by rw [← hW2]; simp
  have hb2 : Below W.heap.size W W2 := by rw [← hW2]; exact ((Below.refl _ _).alloc (Nat.le_refl _) _).alloc (by simp) _
  have hk2 : W2.heap[W.heap.size + 1]? = some (.cells #[.int .u8 1, .int .u8 0, .int .u8 0] 29 (0, 0)) := by
    rw [← hW2]
    have := alloc_block (W.alloc (.cells #[.int .u8 4, .int .u8 0, .int .u8 0] 29)) (.cells #[.int .u8 1, .int .u8 0, .int .u8 0] 29)
    rwa [World.size_alloc] at this
  obtain ⟨W3, hW3⟩ : ∃ W3, W2.alloc (.cells #[.int .u8 4, .int .u8 0, .int .u8 0, .int .i64 5, .int .u8 1, .int .u8 0, .int .u8 0, .int .i64 (-2), .int .u8 4, .int .u8 0, .int .u8 0, .int .i64 (-5)] 37) = W3 := ⟨_, rfl⟩
  have hb3 : Below W.heap.size W W3 := by rw [← hW3]; exact hb2.alloc hb2.size _
  have hk3 : W3.heap[W.heap.size + 1]? = some (.cells #[.int .u8 1, .int .u8 0, .int .u8 0] 29 (0, 0)) := by rw [← hW3]; exact (Below.heap_alloc _ _ _ (block_lt hk2)).trans hk2
  have hr3 : W3.heap[W.heap.size + 1 + 1]? = some (.cells #[.int .u8 4, .int .u8 0, .int .u8 0, .int .i64 5, .int .u8 1, .int .u8 0, .int .u8 0, .int .i64 (-2), .int .u8 4, .int .u8 0, .int .u8 0, .int .i64 (-5)] 37 (0, 0)) := by rw [← hW3, ← hs2]; exact alloc_block W2 _
  have hL3 : OL W3 (some ⟨W.heap.size + 1 + 1, 0, none⟩) 3 3 exL := by
    refine ⟨rfl, Nat.le_refl _, by unfold maxLen; omega, (fun h => by cases h), fun _ => ⟨_, 0, rfl, block_lt hr3, fun j hj i v hv => ?_⟩⟩
    refine block_cell hr3 ?_
    have hi : i < 4 := (List.getElem?_eq_some_iff.1 hv).1
    rcases (by omega : j = 0 ∨ j = 1 ∨ j = 2) with rfl | rfl | rfl <;> rcases (by omega : i = 0 ∨ i = 1 ∨ i = 2 ∨ i = 3) with rfl | rfl | rfl | rfl <;> exact hv
  have hnet := net_o _ 3 3 exL W3 hL3 ex_ok (by omega)
  rw [ex_net.1, ex_net.2] at hnet
  have HB3 := Lib.hid hb3
  have HK3 := Lib.hid hk3
  have HW2 := Lib.hid hW2
  have HW3 := Lib.hid hW3
  clear hs2 hb2 hk2 hb3 hk3 hr3 hL3 hW2 hW3
  go_enter Try.func12, Try.ntmps12
  go_wp2_with fail
  rw [HW2.out, HW3.out]
  refine hnet.mono ?_
  rintro e W4 ⟨p, c, rfl, hs4, hb4, _⟩
  have HB4 := Lib.hid (HB3.out.trans (hb4.mono HB3.out.size))
  have hk4 := block_later HK3.out hb4
  have hcap : 1 ≤ c := hs4.cap
  obtain ⟨b, off, rfl, _, c0, c1, c2, c3⟩ := op_cells hs4 (j := 0) (by decide)
  have hsame := fun q : After W4 => same_o _ _ 1 1 c c _ _ q.w (hs4.later q.h) (hs4.later q.h) (by omega) (by omega)
  simp only [decide_true] at hsame
  have d0 : W4.cell? ⟨b, off, none⟩ = some (.int .u8 1) := by simpa using c0
  have d1 : W4.cell? ⟨b, off + 1, none⟩ = some (.int .u8 0) := by simpa using c1
  have d2 : W4.cell? ⟨b, off + 2, none⟩ = some (.int .u8 0) := by simpa using c2
  have d3 : W4.cell? ⟨b, off + 3, none⟩ = some (.int .i64 (-2)) := by simpa using c3
  have e0 := fun q : After W4 => cell_after q d0
  have e1 := fun q : After W4 => cell_after q d1
  have e2 := fun q : After W4 => cell_after q d2
  have e3 := fun q : After W4 => cell_after q d3
  have f0 := fun q : After W4 => cell_after q (block_cell (j := 0) (v := .int .u8 1) hk4 rfl)
  have f1 := fun q : After W4 => cell_after q (block_cell (j := 1) (v := .int .u8 0) hk4 rfl)
  have f2 := fun q : After W4 => cell_after q (block_cell (j := 2) (v := .int .u8 0) hk4 rfl)
  have hq := fun w => op_eql 1 0 0 (-2) 1 0 0 (-2) w
  simp only [decide_true] at hq
  clear hnet hs4 hb4 c0 c1 c2 c3 d0 d1 d2 d3 hk4
  simp only [List.length_cons, List.length_nil, Nat.zero_add]
  go_wp2_with fail
  refine wp_region_after (by kernel_rfl) (by kernel_rfl) ?_
  repeat (go_big_quiet_step (first | (go_at_call 17; exact calls_after _ (hsame _))))
  refine wpQuiet_nil ?_
  rintro w3 ⟨⟨wq, h6⟩, hw⟩
  subst hw
  go_wp2_with fail
  go_ret
  exact ⟨rfl, HB4.out.trans (h6.mono HB4.out.size)⟩
end Go.Proofs.Ytmjhfohpllndhaa
