/- A disk's small calls: what is seen; Blocks, Size, Block, First, End, Segs, Bytes, Pending. -/
import Derived.Test.YtdkpjaobfohdfaaDiskKit
import Derived.Laws.ResultCell
namespace Go.Proofs.Ytdkpjaobfohdfaa
open Go.RowKit Go.ChangeShapes Go.WideShapes
set_option linter.unusedVariables false
set_option maxRecDepth 10000
set_option linter.unusedSimpArgs false

theorem disk_kept (x hi : Int) (w : World) (h0 : 0 ≤ hi) : Calls Try.prog 18 #[.int .i64 x, .int .i64 hi] w fun e w' => e = .returned (.int .i64 (kp x hi : Nat)) ∧ w' = w := by
  have hk : (if hi < (if x < 0 then 0 else x) then hi else (if x < 0 then 0 else x)) = ((kp x hi : Nat) : Int) := by unfold kp; split <;> split <;> omega
  have hk2 : min (max x 0) hi = ((kp x hi : Nat) : Int) := by unfold kp; omega
  have hk3 : min hi (max x 0) = ((kp x hi : Nat) : Int) := by unfold kp; omega
  generalize kp x hi = y at *
  go_enter Try.func18, Try.ntmps18
  go_wp2_with fail
  all_goals (go_ret; exact ⟨rfl, rfl⟩)
theorem parts_vol (x y : Option Addr) (w : World) : (Instr.field 55 (.agg #[.pointer x, .pointer y]) 0).run Try.prog w = .ok (.pointer x) w := by kernel_rfl
theorem parts_tape (x y : Option Addr) (w : World) : (Instr.field 55 (.agg #[.pointer x, .pointer y]) 1).run Try.prog w = .ok (.pointer y) w := by kernel_rfl
theorem look_nil (w : World) : Calls Try.prog 40 #[.pointer none] w fun e w' => e = .returned (.agg #[.pointer none, .pointer none]) ∧ Below w.heap.size w w' := by
  have HA := Lib.hid (alloc_block w (.cells #[.pointer none, .pointer none] 55))
  have HB : Hid (Below w.heap.size w (w.alloc (.cells #[.pointer none, .pointer none] 55))) := Lib.hid ((Below.refl _ _).alloc (Nat.le_refl _) _)
  go_enter Try.func40, Try.ntmps40
  go_wp2_with fail
  refine bodyPost_ret (v := .agg #[.pointer none, .pointer none]) ?_ rfl ⟨rfl, HB.out⟩
  exact results_cell_row rfl _ _ w.heap.size 55 _ (0, 0) _ rfl HA.out Try.underlying55 rfl (by kernel_rfl)
theorem look_any {w : World} {col : Nat → Nat} {c B : Nat} {A : Ad} {d : DS} (h : Dka w col c B A d) : Calls Try.prog 40 #[.pointer (some ⟨B, 0, none⟩)] w fun e w' => e = .returned (.agg #[.pointer (some ⟨A.Bv, 0, none⟩), .pointer (some ⟨A.T, 0, none⟩)]) ∧ Below w.heap.size w w' := by
  obtain ⟨_, c1, c2, _, _, _⟩ := h.cells
  have HA := Lib.hid (alloc_block w (.cells #[.pointer (some ⟨A.Bv, 0, none⟩), .pointer (some ⟨A.T, 0, none⟩)] 55))
  have HB : Hid (Below w.heap.size w (w.alloc (.cells #[.pointer (some ⟨A.Bv, 0, none⟩), .pointer (some ⟨A.T, 0, none⟩)] 55))) := Lib.hid ((Below.refl _ _).alloc (Nat.le_refl _) _)
  have hlt := block_lt h.blk
  clear h
  go_enter Try.func40, Try.ntmps40
  go_wp2_with fail
  refine bodyPost_ret (v := .agg #[.pointer (some ⟨A.Bv, 0, none⟩), .pointer (some ⟨A.T, 0, none⟩)]) ?_ rfl ⟨rfl, HB.out⟩
  exact results_cell_row rfl _ _ w.heap.size 55 _ (0, 0) _ rfl HA.out Try.underlying55 rfl (by kernel_rfl)
section
variable {w : World} {col : Nat → Nat} {c B : Nat} {d : DS}
theorem disk_blocks (h : Dk w col c B d) : Calls Try.prog 29 #[.pointer (some ⟨B, 0, none⟩)] w fun e w' => e = .returned (.int .i64 (d.V.length : Nat)) ∧ Below w.heap.size w w' := by
  obtain ⟨A, h⟩ := h
  have hl := look_any h
  have HS := Lib.hid h.seen
  have HL : Hid (d.sV.length = d.V.length) := Lib.hid (foldV_len ..)
  clear h
  have hpv := parts_vol
  go_enter Try.func29, Try.ntmps29
  go_wp2_with fail
  refine hl.mono ?_
  rintro e w1 ⟨rfl, hb⟩
  have HB := Lib.hid hb
  obtain ⟨⟨G, hv, _⟩, _, _⟩ := HS.out.later hb
  have hc := blocks_any _ _ _ _ w1 hv
  rw [HL.out] at hc
  clear hv
  clear hl hb
  go_wp2_with fail
  refine hc.mono ?_
  rintro e w2 ⟨rfl, rfl⟩
  go_wp2_with fail
  go_ret
  exact ⟨rfl, HB.out⟩
theorem disk_size (h : Dk w col c B d) : Calls Try.prog 30 #[.pointer (some ⟨B, 0, none⟩)] w fun e w' => e = .returned (.int .i64 (d.s : Nat)) ∧ Below w.heap.size w w' := by
  obtain ⟨A, h⟩ := h
  have hl := look_any h
  have HS := Lib.hid h.seen
  clear h
  have hpv := parts_vol
  go_enter Try.func30, Try.ntmps30
  go_wp2_with fail
  refine hl.mono ?_
  rintro e w1 ⟨rfl, hb⟩
  have HB := Lib.hid hb
  obtain ⟨⟨G, hv, _⟩, _, _⟩ := HS.out.later hb
  have hc := size_any _ _ _ _ w1 hv
  clear hv
  clear hl hb
  go_wp2_with fail
  refine hc.mono ?_
  rintro e w2 ⟨rfl, rfl⟩
  go_wp2_with fail
  go_ret
  exact ⟨rfl, HB.out⟩
theorem disk_first (h : Dk w col c B d) : Calls Try.prog 32 #[.pointer (some ⟨B, 0, none⟩)] w fun e w' => e = .returned (.int .i64 (d.sT.f * d.z : Nat)) ∧ Below w.heap.size w w' := by
  obtain ⟨A, h⟩ := h
  have hl := look_any h
  have HS := Lib.hid h.seen
  obtain ⟨x0, hx0⟩ : ∃ x0, d.sT.f * d.z = x0 := ⟨_, rfl⟩
  rw [hx0]
  have HX := Lib.hid hx0
  clear h hx0
  have hpv := parts_tape
  go_enter Try.func32, Try.ntmps32
  go_wp2_with fail
  refine hl.mono ?_
  rintro e w1 ⟨rfl, hb⟩
  have HB := Lib.hid hb
  obtain ⟨_, _, mb, ht⟩ := HS.out.later hb
  have hc := tape_first ht
  clear ht
  rw [HX.out] at hc
  clear hl hb
  go_wp2_with fail
  refine hc.mono ?_
  rintro e w2 ⟨rfl, rfl⟩
  go_wp2_with fail
  go_ret
  exact ⟨rfl, HB.out⟩
theorem disk_end (h : Dk w col c B d) : Calls Try.prog 33 #[.pointer (some ⟨B, 0, none⟩)] w fun e w' => e = .returned (.int .i64 (d.sT.f * d.z + d.sT.B.length : Nat)) ∧ Below w.heap.size w w' := by
  obtain ⟨A, h⟩ := h
  have hl := look_any h
  have HS := Lib.hid h.seen
  obtain ⟨x0, hx0⟩ : ∃ x0, d.sT.f * d.z + d.sT.B.length = x0 := ⟨_, rfl⟩
  rw [hx0]
  have HX := Lib.hid hx0
  clear h hx0
  have hpv := parts_tape
  go_enter Try.func33, Try.ntmps33
  go_wp2_with fail
  refine hl.mono ?_
  rintro e w1 ⟨rfl, hb⟩
  have HB := Lib.hid hb
  obtain ⟨_, _, mb, ht⟩ := HS.out.later hb
  have hc := tape_end ht
  clear ht
  rw [HX.out] at hc
  clear hl hb
  go_wp2_with fail
  refine hc.mono ?_
  rintro e w2 ⟨rfl, rfl⟩
  go_wp2_with fail
  go_ret
  exact ⟨rfl, HB.out⟩
theorem disk_segs (h : Dk w col c B d) : Calls Try.prog 35 #[.pointer (some ⟨B, 0, none⟩)] w fun e w' => e = .returned (.int .i64 (nS d.z d.sT.B.length : Nat)) ∧ Below w.heap.size w w' := by
  obtain ⟨A, h⟩ := h
  have hl := look_any h
  have HS := Lib.hid h.seen
  obtain ⟨x0, hx0⟩ : ∃ x0, nS d.z d.sT.B.length = x0 := ⟨_, rfl⟩
  rw [hx0]
  have HX := Lib.hid hx0
  clear h hx0
  have hpv := parts_tape
  go_enter Try.func35, Try.ntmps35
  go_wp2_with fail
  refine hl.mono ?_
  rintro e w1 ⟨rfl, hb⟩
  have HB := Lib.hid hb
  obtain ⟨_, _, mb, ht⟩ := HS.out.later hb
  have hc := tape_segs ht
  clear ht
  rw [HX.out] at hc
  clear hl hb
  go_wp2_with fail
  refine hc.mono ?_
  rintro e w2 ⟨rfl, rfl⟩
  go_wp2_with fail
  go_ret
  exact ⟨rfl, HB.out⟩
theorem disk_bytes (h : Dk w col c B d) (hbig : d.sT.len d.z ≤ 1000000) (x : Int) : Calls Try.prog 15 #[.pointer (some ⟨B, 0, none⟩), .int .i64 x] w (GivesB w (bytesT d.z d.sT x)) := by
  obtain ⟨A, h⟩ := h
  have hl := look_any h
  have HS := Lib.hid h.seen
  clear h
  have hpv := parts_tape
  go_enter Try.func15, Try.ntmps15
  go_wp2_with fail
  refine hl.mono ?_
  rintro e w1 ⟨rfl, hb⟩
  have HB := Lib.hid hb
  obtain ⟨_, _, mb, ht⟩ := HS.out.later hb
  have hc := tape_bytes ht hbig x
  clear hl hb ht
  go_wp2_with fail
  refine hc.mono ?_
  rintro e w2 ⟨p, cp, rfl, h1, h2, h3⟩
  have HX : Hid (GivesB w (bytesT d.z d.sT x) (.returned (.slice p (bytesT d.z d.sT x).length cp)) w2) := Lib.hid ⟨p, cp, rfl, h1, HB.out.trans (h2.mono HB.out.size), fun a ha => Nat.le_trans HB.out.size (h3 a ha)⟩
  clear h1 h2 h3 hc
  generalize bytesT d.z d.sT x = L0 at *
  generalize hn : L0.length = n0 at *
  go_wp2_with fail
  go_ret
  exact HX.out
theorem disk_block (h : Dk w col c B d) (i : Nat) (hi : i < d.V.length) : Calls Try.prog 31 #[.pointer (some ⟨B, 0, none⟩), .int .i64 (i : Nat)] w fun e w' => ∃ p c, e = .returned (.slice p d.s c) ∧ BL w' p d.s c (d.sV.getD i []) ∧ Below w.heap.size w w' := by
  obtain ⟨A, h⟩ := h
  have hl := look_any h
  have HS := Lib.hid h.seen
  have HI : Hid (i < d.sV.length) := Lib.hid (by rw [show d.sV.length = d.V.length from foldV_len ..]; exact hi)
  clear h hi
  have hpv := parts_vol
  go_enter Try.func31, Try.ntmps31
  go_wp2_with fail
  refine hl.mono ?_
  rintro e w1 ⟨rfl, hb⟩
  have HB := Lib.hid hb
  obtain ⟨⟨G, hv, _⟩, _, _⟩ := HS.out.later hb
  have hc := block_any _ _ _ _ i w1 hv HI.out
  clear hl hb hv
  go_wp2_with fail
  refine hc.mono ?_
  rintro e w2 ⟨p, cp, rfl, h1, h2⟩
  have H1 := Lib.hid h1
  have H2 := Lib.hid (HB.out.trans (h2.mono HB.out.size))
  clear h1 h2 hc
  go_wp2_with fail
  go_ret
  exact ⟨_, _, rfl, H1.out, H2.out⟩
theorem disk_block_none (h : Dk w col c B d) (i : Int) (hi : ¬ (0 ≤ i ∧ i < d.V.length)) : Calls Try.prog 31 #[.pointer (some ⟨B, 0, none⟩), .int .i64 i] w fun e w' => e = .returned (.slice none 0 0) ∧ Below w.heap.size w w' := by
  obtain ⟨A, h⟩ := h
  have hl := look_any h
  have HS := Lib.hid h.seen
  have HI : Hid (¬ (0 ≤ i ∧ i < d.sV.length)) := Lib.hid (by rw [show d.sV.length = d.V.length from foldV_len ..]; exact hi)
  clear h hi
  have hpv := parts_vol
  go_enter Try.func31, Try.ntmps31
  go_wp2_with fail
  refine hl.mono ?_
  rintro e w1 ⟨rfl, hb⟩
  have HB := Lib.hid hb
  obtain ⟨⟨G, hv, _⟩, _, _⟩ := HS.out.later hb
  have hc := block_none _ _ _ _ i w1 hv HI.out
  clear hl hb hv
  go_wp2_with fail
  refine hc.mono ?_
  rintro e w2 ⟨rfl, rfl⟩
  go_wp2_with fail
  go_ret
  exact ⟨rfl, HB.out⟩
theorem disk_pending (h : Dk w col c B d) : Calls Try.prog 13 #[.pointer (some ⟨B, 0, none⟩)] w fun e w' => e = .returned (.int .i64 (d.L.length : Nat)) ∧ w' = w := by
  obtain ⟨A, h⟩ := h
  obtain ⟨_, _, _, _, _, c5⟩ := h.cells
  obtain ⟨p, cp, PL, hp, _⟩ := h.pe.sl
  rw [hp] at c5
  clear h hp
  generalize d.L.length = n0 at *
  go_enter Try.func13, Try.ntmps13
  go_wp2_with fail
  go_ret
  exact ⟨rfl, rfl⟩
end
theorem disk_blocks0 (w : World) : Calls Try.prog 29 #[.pointer none] w fun e w' => e = .returned (.int .i64 0) ∧ Below w.heap.size w w' := by
  have hl := look_nil w
  have HC := Lib.hid fun w => blocks_nil w
  have hpv := parts_vol
  go_enter Try.func29, Try.ntmps29
  go_wp2_with fail
  refine hl.mono ?_
  rintro e w1 ⟨rfl, hb⟩
  have HB := Lib.hid hb
  have hc := HC.out w1
  clear hl hb
  go_wp2_with fail
  refine hc.mono ?_
  rintro e w2 ⟨rfl, rfl⟩
  go_wp2_with fail
  go_ret
  exact ⟨rfl, HB.out⟩
theorem disk_size0 (w : World) : Calls Try.prog 30 #[.pointer none] w fun e w' => e = .returned (.int .i64 0) ∧ Below w.heap.size w w' := by
  have hl := look_nil w
  have HC := Lib.hid fun w => size_nil w
  have hpv := parts_vol
  go_enter Try.func30, Try.ntmps30
  go_wp2_with fail
  refine hl.mono ?_
  rintro e w1 ⟨rfl, hb⟩
  have HB := Lib.hid hb
  have hc := HC.out w1
  clear hl hb
  go_wp2_with fail
  refine hc.mono ?_
  rintro e w2 ⟨rfl, rfl⟩
  go_wp2_with fail
  go_ret
  exact ⟨rfl, HB.out⟩
theorem disk_first0 (w : World) : Calls Try.prog 32 #[.pointer none] w fun e w' => e = .returned (.int .i64 0) ∧ Below w.heap.size w w' := by
  have hl := look_nil w
  have HC := Lib.hid fun w => tape_first0 w
  have hpv := parts_tape
  go_enter Try.func32, Try.ntmps32
  go_wp2_with fail
  refine hl.mono ?_
  rintro e w1 ⟨rfl, hb⟩
  have HB := Lib.hid hb
  have hc := HC.out w1
  clear hl hb
  go_wp2_with fail
  refine hc.mono ?_
  rintro e w2 ⟨rfl, rfl⟩
  go_wp2_with fail
  go_ret
  exact ⟨rfl, HB.out⟩
theorem disk_end0 (w : World) : Calls Try.prog 33 #[.pointer none] w fun e w' => e = .returned (.int .i64 0) ∧ Below w.heap.size w w' := by
  have hl := look_nil w
  have HC := Lib.hid fun w => tape_end0 w
  have hpv := parts_tape
  go_enter Try.func33, Try.ntmps33
  go_wp2_with fail
  refine hl.mono ?_
  rintro e w1 ⟨rfl, hb⟩
  have HB := Lib.hid hb
  have hc := HC.out w1
  clear hl hb
  go_wp2_with fail
  refine hc.mono ?_
  rintro e w2 ⟨rfl, rfl⟩
  go_wp2_with fail
  go_ret
  exact ⟨rfl, HB.out⟩
theorem disk_segs0 (w : World) : Calls Try.prog 35 #[.pointer none] w fun e w' => e = .returned (.int .i64 0) ∧ Below w.heap.size w w' := by
  have hl := look_nil w
  have HC := Lib.hid fun w => tape_segs0 w
  have hpv := parts_tape
  go_enter Try.func35, Try.ntmps35
  go_wp2_with fail
  refine hl.mono ?_
  rintro e w1 ⟨rfl, hb⟩
  have HB := Lib.hid hb
  have hc := HC.out w1
  clear hl hb
  go_wp2_with fail
  refine hc.mono ?_
  rintro e w2 ⟨rfl, rfl⟩
  go_wp2_with fail
  go_ret
  exact ⟨rfl, HB.out⟩
theorem disk_bytes0 (x : Int) (w : World) : Calls Try.prog 15 #[.pointer none, .int .i64 x] w fun e w' => e = .returned (.slice none 0 0) ∧ Below w.heap.size w w' := by
  have hl := look_nil w
  have HC := Lib.hid fun w => tape_bytes0 x w
  have hpv := parts_tape
  go_enter Try.func15, Try.ntmps15
  go_wp2_with fail
  refine hl.mono ?_
  rintro e w1 ⟨rfl, hb⟩
  have HB := Lib.hid hb
  have hc := HC.out w1
  clear hl hb
  go_wp2_with fail
  refine hc.mono ?_
  rintro e w2 ⟨rfl, rfl⟩
  go_wp2_with fail
  go_ret
  exact ⟨rfl, HB.out⟩
theorem disk_block0 (i : Int) (w : World) : Calls Try.prog 31 #[.pointer none, .int .i64 i] w fun e w' => e = .returned (.slice none 0 0) ∧ Below w.heap.size w w' := by
  have hl := look_nil w
  have HC := Lib.hid fun w => block_nil i w
  have hpv := parts_vol
  go_enter Try.func31, Try.ntmps31
  go_wp2_with fail
  refine hl.mono ?_
  rintro e w1 ⟨rfl, hb⟩
  have HB := Lib.hid hb
  have hc := HC.out w1
  clear hl hb
  go_wp2_with fail
  refine hc.mono ?_
  rintro e w2 ⟨rfl, rfl⟩
  go_wp2_with fail
  go_ret
  exact ⟨rfl, HB.out⟩
theorem disk_pending0 (w : World) : Calls Try.prog 13 #[.pointer none] w fun e w' => e = .returned (.int .i64 0) ∧ w' = w := by
  go_enter Try.func13, Try.ntmps13
  go_wp2_with fail
  go_ret
  exact ⟨rfl, rfl⟩
end Go.Proofs.Ytdkpjaobfohdfaa
