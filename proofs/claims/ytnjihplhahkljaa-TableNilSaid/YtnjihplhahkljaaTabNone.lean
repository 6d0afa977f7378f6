/- The going over no table. -/
import Derived.Test.YtnjihplhahkljaaTabSame
namespace Go.Proofs.Ytnjihplhahkljaa
open Go.RowKit Go.ChangeShapes Go.WideShapes
set_option linter.unusedVariables false
attribute [local go_sem] Oper.semAt_some

set_option maxRecDepth 100000 in
set_option maxHeartbeats 2000000 in
theorem all_stops_nil (Bx n0 : Nat) (w : World) (hx : w.cell? ⟨Bx, 0, none⟩ = some (.pointer none)) :
    SeqStopsK Fence.wide 5 Try.prog 27 #[.pointer (some ⟨Bx, 0, none⟩)] (fun x : Rw => #[encK x.1, .int .i64 x.2]) (KpC n0) (fun xs => xs = []) (fun _ => False) 0 w := fun l J Jx W hW hJ _ hY h0 => by
  have hxW := (hW.cell (p := ⟨Bx, 0, none⟩) (World.block_lt_of_cell? _ _ hx)).trans hx
  have hk := callsIn_wide (n := 4).2 (keys_null W)
  have hmk : ∀ w', (Instr.makeSlice 64 (.int .i64 0) (.int .i64 0)).run Try.prog w' = .ok (.slice (some ⟨w'.heap.size, 0, none⟩) 0 0) (w'.alloc (.cells (madeCells #[.int .i64 0] 0) 2)) := fun w' =>
    run_make_row' _ 2 _ 8 Try.underlying64 infoInt rfl _ _ 0 (by omega) (by omega) w'
  have HJ := Lib.hid (hJ [] W (W.alloc (.cells (madeCells #[.int .i64 0] 0) 2)) none h0 (World.grownBy_alloc _ _ none) (fun r e => by cases e))
  clear hY h0 hJ hW hx
  refine callsIn_of_wp Try.func27 rfl trivial ?_ rfl
  simp only [Try.ntmps27, List.size_toArray, List.length_cons, List.length_nil, Nat.reduceAdd, Nat.reduceSub, Array.replicate_succ, Array.replicate_zero, List.push_toArray, List.append_toArray, List.nil_append, List.cons_append]
  gi_wp2
  refine ⟨trivial, hk.mono ?_⟩
  rintro e W1 ⟨rfl, rfl⟩
  gi_wp2
  refine wpIn_loop_rounds 1 ?_
  rw [roundsIn_succ]
  gi_wp2
  refine wpIn_loop_rounds 1 ?_
  rw [roundsIn_succ]
  gi_wp2
  go_end0
  exact ⟨⟨_, rfl⟩, .inl ⟨[], rfl, HJ.out⟩⟩
end Go.Proofs.Ytnjihplhahkljaa
