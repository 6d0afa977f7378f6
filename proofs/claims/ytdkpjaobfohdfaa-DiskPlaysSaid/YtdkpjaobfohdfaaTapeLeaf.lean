/- The tape's small calls: kept, seg, New, First, End, Segs. -/
import Derived.Test.YtdkpjaobfohdfaaTapeKit
import Derived.LoopTactic
import Derived.WalkSpells
import Derived.IntWalk
namespace Go.Proofs.Ytdkpjaobfohdfaa
open Go.RowKit Go.ChangeShapes Go.WideShapes
set_option linter.unusedVariables false
set_option maxRecDepth 10000
set_option linter.unusedSimpArgs false

theorem tape_kept (x : Int) (lo hi : Nat) (w : World) : Calls Try.prog 63 #[.int .i64 x, .int .i64 (lo : Nat), .int .i64 (hi : Nat)] w fun e w' => e = .returned (.int .i64 (cl x lo hi : Nat)) ∧ w' = w := by
  have hk := cl_eq x lo hi
  have hk1 : (if (hi : Int) < (if x < (lo : Int) then (lo : Int) else x) then (hi : Int) else (if x < (lo : Int) then (lo : Int) else x)) = ((cl x lo hi : Nat) : Int) := by rw [← hk]; split <;> split <;> omega
  have hk2 : min (hi : Int) (max x (lo : Int)) = ((cl x lo hi : Nat) : Int) := by rw [← hk]; omega
  generalize cl x lo hi = y at *
  go_enter Try.func63, Try.ntmps63
  go_wp2_with fail
  all_goals (go_ret; exact ⟨rfl, rfl⟩)
section
variable {w : World} {T : Nat} {mb : Option Nat} {Q : Nat → Prop} {a : Int} {s : Nat} {t : TS}
theorem tape_seg0 (T : Nat) (a : Int) (s : Nat) (w : World) (c0 : w.cell? ⟨T, 0, none⟩ = some (.int .i64 a)) (hs : s = cl a 64 4096) : Calls Try.prog 57 #[.pointer (some ⟨T, 0, none⟩)] w fun e w' => e = .returned (.int .i64 (s : Nat)) ∧ w' = w := by
  have hk := tape_kept a 64 4096 w
  rw [← hs] at hk
  clear hs
  go_enter Try.func57, Try.ntmps57
  go_wp2_with fail
  refine hk.mono ?_
  rintro e w' ⟨rfl, rfl⟩
  go_wp2_with fail
  go_ret
  exact ⟨rfl, rfl⟩
theorem tape_seg (h : Tp w T mb Q a s t) : Calls Try.prog 57 #[.pointer (some ⟨T, 0, none⟩)] w fun e w' => e = .returned (.int .i64 (s : Nat)) ∧ w' = w := tape_seg0 T a s w h.cells.1 h.seg
/-- What a region that draws asks of a tape. -/
theorem Tp.at (h : Tp w T mb Q a s t) {F E : Nat} (hF : t.f * s = F) (hE : F + t.B.length = E) : (∀ q, (w.drewN q).cell? ⟨T, 1, none⟩ = some (.int .i64 (F : Nat))) ∧ (∀ q, (w.drewN q).cell? ⟨T, 2, none⟩ = some (.int .i64 (E : Nat))) ∧ (∀ q, (w.drewN q).cell? ⟨T, 3, none⟩ = some (.map mb)) ∧
    ∀ q, Calls Try.prog 57 #[.pointer (some ⟨T, 0, none⟩)] (w.drewN q) fun e w' => e = .returned (.int .i64 (s : Nat)) ∧ w' = w.drewN q := by
  subst hF hE
  exact ⟨fun q => h.cells.2.1, fun q => h.cells.2.2.1, fun q => h.cells.2.2.2, fun q => tape_seg0 T a s _ h.cells.1 h.seg⟩
theorem tape_first (h : Tp w T mb Q a s t) : Calls Try.prog 54 #[.pointer (some ⟨T, 0, none⟩)] w fun e w' => e = .returned (.int .i64 (t.f * s : Nat)) ∧ w' = w := by
  obtain ⟨_, c1, _, _⟩ := h.cells
  clear h
  generalize t.f * s = x at *
  go_enter Try.func54, Try.ntmps54
  go_wp2_with fail
  go_ret
  exact ⟨rfl, rfl⟩
theorem tape_end (h : Tp w T mb Q a s t) : Calls Try.prog 55 #[.pointer (some ⟨T, 0, none⟩)] w fun e w' => e = .returned (.int .i64 (t.f * s + t.B.length : Nat)) ∧ w' = w := by
  obtain ⟨_, _, c2, _⟩ := h.cells
  clear h
  generalize t.f * s + t.B.length = x at *
  go_enter Try.func55, Try.ntmps55
  go_wp2_with fail
  go_ret
  exact ⟨rfl, rfl⟩
theorem tape_segs (h : Tp w T mb Q a s t) : Calls Try.prog 56 #[.pointer (some ⟨T, 0, none⟩)] w fun e w' => e = .returned (.int .i64 (nS s t.B.length : Nat)) ∧ w' = w := by
  obtain ⟨_, _, _, c3⟩ := h.cells
  have hs := h.s_in
  have hlen : ∀ ty, (Builtin.len_ #[87] ty #[.map mb]).run Try.prog w = .ok (.int .i64 (nS s t.B.length : Nat)) w := by
    intro ty
    cases mb with
    | none =>
      rw [(h.no rfl).2, nS_eq (s := s) (n := ([] : List Int).length) (m := 0) (by omega) (by simp) (fun i hi => by omega)]
      exact Maps.len_nil Try.underlying87 ty
    | some b =>
      obtain ⟨_, z, D, hown, hT, _⟩ := h.yes b rfl
      exact len_at hown hT ty
  clear h
  generalize nS s t.B.length = m at *
  go_enter Try.func56, Try.ntmps56
  go_wp2_with fail
  go_ret
  exact ⟨rfl, rfl⟩
end
theorem tape_first0 (w : World) : Calls Try.prog 54 #[.pointer none] w fun e w' => e = .returned (.int .i64 0) ∧ w' = w := by
  go_enter Try.func54, Try.ntmps54
  go_wp2_with fail
  go_ret
  exact ⟨rfl, rfl⟩
theorem tape_end0 (w : World) : Calls Try.prog 55 #[.pointer none] w fun e w' => e = .returned (.int .i64 0) ∧ w' = w := by
  go_enter Try.func55, Try.ntmps55
  go_wp2_with fail
  go_ret
  exact ⟨rfl, rfl⟩
theorem tape_segs0 (w : World) : Calls Try.prog 56 #[.pointer none] w fun e w' => e = .returned (.int .i64 0) ∧ w' = w := by
  go_enter Try.func56, Try.ntmps56
  go_wp2_with fail
  go_ret
  exact ⟨rfl, rfl⟩
theorem tape_new (a : Int) (w : World) : Calls Try.prog 17 #[.int .i64 a] w fun e w' => e = .returned (.pointer (some ⟨w.heap.size, 0, none⟩)) ∧ w' = w.alloc (.cells #[.int .i64 a, .int .i64 0, .int .i64 0, .map none] 89) := by
  go_enter Try.func17, Try.ntmps17
  go_wp2_with fail
  go_ret
  exact ⟨rfl, rfl⟩
end Go.Proofs.Ytdkpjaobfohdfaa
