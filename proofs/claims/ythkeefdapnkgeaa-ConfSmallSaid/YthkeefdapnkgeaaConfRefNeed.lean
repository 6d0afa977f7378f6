/- How much of a volume a configuration needs, as the document has it. -/
import Derived.Test.YthkeefdapnkgeaaConfCheck
import Derived.IntWalk
namespace Go.Proofs.Ythkeefdapnkgeaa
open Go.RowKit Go.ChangeShapes Go.WideShapes
set_option linter.unusedVariables false
set_option linter.unusedSimpArgs false

theorem refblocks_any (n z : Nat) (hz : 1 ≤ z) (hz2 : z ≤ 1000000000) (hn : n ≤ 1000000000) (W : World) : Calls Try.prog 41 #[.int .i64 n, .int .i64 z] W fun e w' => e = .returned (.int .i64 (piecesN n z : Nat)) ∧ Below W.heap.size W w' := by
  have hq : n / z ≤ n := Nat.div_le_self n z
  have hr : n % z < z := Nat.mod_lt _ (by omega)
  have e1 : (n : Int).tdiv (z : Int) = ((n / z : Nat) : Int) := rfl
  have e2 : (n : Int).tmod (z : Int) = ((n % z : Nat) : Int) := rfl
  have hp : piecesN n z = n / z + min (n % z) 1 := rfl
  rw [hp]
  clear hp
  generalize n / z = q at *
  generalize n % z = r at *
  have n1 : ((z : Int) == 0) = false := by rw [beq_eq_false_iff_ne]; omega
  have n2 : ((z : Int) == -1) = false := by rw [beq_eq_false_iff_ne]; omega
  have n3 : ¬ (z : Int) < 1 := by omega
  have n4 : ¬ (z : Int) = 0 := by omega
  by_cases h1 : 0 < r
  · have hm : min r 1 = 1 := by omega
    rw [hm]
    have h1' : (0 : Int) < r := by omega
    clear hm
    go_enter Try.func41, Try.ntmps41
    go_wp2_with fail
    go_ret
    exact ⟨by simp, Below.refl _ _⟩
  · have hm : min r 1 = 0 := by omega
    rw [hm]
    have h1' : ¬ (0 : Int) < r := by omega
    clear hm
    go_enter Try.func41, Try.ntmps41
    go_wp2_with fail
    go_ret
    exact ⟨by simp, Below.refl _ _⟩
/-- As many fields as there are keys of its articles and warehouses. -/
structure Keys (C : Cf) (s w : Nat) : Prop where
  s1 : 1 ≤ s
  s4 : s ≤ 4
  w1 : 1 ≤ w
  w4 : w ≤ 4
  cs : C.s = s
  cw : C.w = w
  len : C.fn = (allQ s w 5).length
theorem heldd_step {W w1 w2 : World} {X : Nat} {u0 u1 u2 : Value} (h : Below w1.heap.size w1 w2)
    (hS : w1.cell? ⟨X, 0, none⟩ = some u0 ∧ w1.cell? ⟨X, 1, none⟩ = some u1 ∧ w1.cell? ⟨X, 24, none⟩ = some u2 ∧ Hid (Below W.heap.size W w1)) :
    w2.cell? ⟨X, 0, none⟩ = some u0 ∧ w2.cell? ⟨X, 1, none⟩ = some u1 ∧ w2.cell? ⟨X, 24, none⟩ = some u2 ∧ Hid (Below W.heap.size W w2) := by
  obtain ⟨h0, h1, h2, h3⟩ := hS
  exact ⟨(h.cell (World.block_lt_of_cell? _ _ h0)).trans h0, (h.cell (World.block_lt_of_cell? _ _ h1)).trans h1, (h.cell (World.block_lt_of_cell? _ _ h2)).trans h2, Lib.hid (h3.out.trans (h.mono h3.out.size))⟩
set_option maxHeartbeats 2000000 in
theorem refheads_any (C : Cf) (s w b : Nat) (hk : Keys C s w) (hb : C.bk = b) (h1 : 16 ≤ b) (h2 : b ≤ 1000000) (W : World) : Calls Try.prog 40 #[.agg (cc C)] W fun e w' => e = .returned (.int .i64 (piecesN C.fn (b / 16) : Nat)) ∧ Below W.heap.size W w' := by
  have HA := Lib.hid fun W => refall_any s w W
  rw [refQ_on s w ⟨hk.s1, hk.s4⟩ ⟨hk.w1, hk.w4⟩] at HA
  have hl := all_len s w ⟨hk.s1, hk.s4⟩ ⟨hk.w1, hk.w4⟩
  have HLEN := Lib.hid hk.len
  have hfn : C.fn ≤ 80 := by rw [hk.len]; exact hl
  have HCS := Lib.hid hk.cs
  have HCW := Lib.hid hk.cw
  have HBK := Lib.hid hb
  have HBL := Lib.hid fun W => refblocks_any C.fn (b / 16) (by omega) (by omega) (by omega) W
  have e1 : (b : Int).tdiv 16 = ((b / 16 : Nat) : Int) := rfl
  have hz : b / 16 ≤ b := Nat.div_le_self b 16
  have h1' : ¬ (b : Int) < 16 := by omega
  generalize b / 16 = z at *
  clear hk hl hb hfn
  generalize allQ s w 5 = L at *
  have HB1 := Lib.hid ((Below.refl W.heap.size W).alloc (Nat.le_refl _) (.cells (cc C) 30))
  have HX0 := Lib.hid (CB.new W C)
  go_enter Try.func40, Try.ntmps40
  go_upto_region 1 with (fail)
  generalize W.alloc (.cells (cc C) 30) = W1 at *
  generalize hX : W.heap.size = X at *
  have HX := Lib.hid hX
  clear hX
  have z0 := block_cell (j := 0) HX0.out (v := .int .i64 C.s) rfl
  have z1 := block_cell (j := 1) HX0.out (v := .int .i64 C.w) rfl
  have z2 := block_cell (j := 24) HX0.out (v := .int .i64 C.bk) rfl
  rw [HCS.out] at z0
  rw [HCW.out] at z1
  rw [HBK.out] at z2
  obtain ⟨cs, cw, fp, fn, fc, pr, sg, od, rt, se, cp, bk, bs⟩ := C
  simp only at *
  have hS0 : (fun w' => w'.cell? ⟨X, 0, none⟩ = some (.int .i64 s) ∧ w'.cell? ⟨X, 1, none⟩ = some (.int .i64 w) ∧ w'.cell? ⟨X, 24, none⟩ = some (.int .i64 b) ∧ Hid (Below W.heap.size W w')) W1.drew :=
    ⟨z0, z1, z2, Lib.hid (by rw [HX.out]; exact HB1.out.drew)⟩
  go_wp2_with fail
  clear z0 z1 z2 HX0 HB1
  have hwz : IntKind.i64.wrap (z : Int) = z := IntWalk.i64_in _ (by omega)
  go_region_held (fun w' => w'.cell? ⟨X, 0, none⟩ = some (.int .i64 s) ∧ w'.cell? ⟨X, 1, none⟩ = some (.int .i64 w) ∧ w'.cell? ⟨X, 24, none⟩ = some (.int .i64 b) ∧ Hid (Below W.heap.size W w')) (first | exact hS0 | assumption) (first
    | (go_at_call 23; refine (HA.out _).mono ?_; rintro e w' ⟨p2, c2, rfl, hk2, h⟩; have h' := heldd_step (W := W) h (by assumption); clear hk2; rw [← HLEN.out])
    | (go_at_call 41; refine (HBL.out _).mono ?_; rintro e w' ⟨rfl, h⟩; have h' := heldd_step (W := W) h (by assumption); have HZ := h'.2.2.2))
  all_goals
    go_wp2_with fail
    go_ret
    exact ⟨rfl, HZ.out⟩
set_option maxHeartbeats 1000000 in
theorem refarea_any (C : Cf) (s w b : Nat) (hk : Keys C s w) (hb : C.bk = b) (h1 : 16 ≤ b) (h2 : b ≤ 1000000) (hn : C.fn ≤ 1000000) (W : World) : Calls Try.prog 32 #[.agg (cc C)] W fun e w' => e = .returned (.int .i64 (areaN C b : Nat)) ∧ Below W.heap.size W w' := by
  have hh := fun W => refheads_any C s w b hk hb h1 h2 W
  have hm := fun W => refmost_any C.sg C.od W
  obtain ⟨M, hM⟩ : ∃ M : Nat, mostI C.sg C.od = M := ⟨(mostI C.sg C.od).toNat, by have := most_bounds C.sg C.od; omega⟩
  have hMb := most_bounds C.sg C.od
  have hA : areaN C b = piecesN C.fn (b / 16) + piecesN M b := by unfold areaN; rw [hM]; rfl
  rw [hM] at hm hMb
  have hp := fun W => refblocks_any M b (by omega) (by omega) (by omega) W
  have hl1 := pieces_le C.fn (b / 16)
  have hl2 := pieces_le M b
  rw [hA]
  clear hA hM hk
  generalize piecesN C.fn (b / 16) = x at *
  generalize piecesN M b = y at *
  have HB := Lib.hid ((Below.refl W.heap.size W).alloc (Nat.le_refl _) (.cells (cc C) 30))
  have HC := Lib.hid (CB.new W C)
  go_enter Try.func32, Try.ntmps32
  go_wp2_with fail
  generalize W.alloc (.cells (cc C) 30) = W1 at *
  have HX : Hid (W.heap.size = W.heap.size) := Lib.hid rfl
  generalize hX : W.heap.size = X at *
  replace HX := Lib.hid hX
  clear hX
  obtain ⟨_, _, _, _, _, _, _, _, _, _, _, _, _, _, _, _, _, _, _, c19, c20, _, _, _, c24, _⟩ := HC.out.ats
  rw [hb] at c24
  clear hb
  refine wp_region_after (by kernel_rfl) (by kernel_rfl) ?_
  repeat (first | (go_big_quiet_want; (with_reducible refine quiet_load_cf HC.out ?_ ?_); rfl; go_simp; go_big_quiet_on) | go_big_quiet_step (first | (go_at_call 40; exact calls_after _ (hh _)) | (go_at_call 8; exact calls_after_same _ (hm _)) | (go_at_call 41; exact calls_after _ (hp _))))
  refine wpQuiet_nil ?_
  intro w4 hw'
  obtain ⟨⟨wq, h6⟩, hw''⟩ := hw'
  subst hw''
  clear c19 c20 c24
  go_wp2_with fail
  go_ret
  exact ⟨by simp, by rw [HX.out]; exact HB.out.trans (h6.mono (by have := HB.out.size; rw [HX.out] at this; exact this))⟩
theorem refneed_any (C : Cf) (s w b : Nat) (hk : Keys C s w) (hb : C.bk = b) (h1 : 16 ≤ b) (h2 : b ≤ 1000000) (hn : C.fn ≤ 1000000) (W : World) : Calls Try.prog 24 #[.agg (cc C)] W fun e w' => e = .returned (.int .i64 (2 * areaN C b + 2 : Nat)) ∧ Below W.heap.size W w' := by
  have ha := fun W => refarea_any C s w b hk hb h1 h2 hn W
  have hl : areaN C b ≤ 2000000 := by
    have hMb := most_bounds C.sg C.od
    have hl1 := pieces_le C.fn (b / 16)
    have hl2 := pieces_le (mostI C.sg C.od).toNat b
    unfold areaN
    omega
  generalize areaN C b = x at *
  clear hb h1 h2 hn hk
  have HB := Lib.hid ((Below.refl W.heap.size W).alloc (Nat.le_refl _) (.cells (cc C) 30))
  have HC := Lib.hid (CB.new W C)
  go_enter Try.func24, Try.ntmps24
  go_wp2_with (first | ((with_reducible refine wpList_load_cf HC.out ?_ ?_); rfl))
  refine (ha _).mono ?_
  rintro e w' ⟨rfl, hb⟩
  go_wp2_with fail
  go_ret
  exact ⟨by simp, HB.out.trans (hb.mono HB.out.size)⟩
end Go.Proofs.Ythkeefdapnkgeaa
