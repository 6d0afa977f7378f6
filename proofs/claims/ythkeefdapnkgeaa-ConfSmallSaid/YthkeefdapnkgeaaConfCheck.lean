/- Check, where at most the log or the volume is too small. -/
import Derived.Test.YthkeefdapnkgeaaConfRank
import Derived.Test.YthkeefdapnkgeaaKeyRefAll
import Derived.Deep.RegionHeld
namespace Go.Proofs.Ythkeefdapnkgeaa
open Go.RowKit Go.ChangeShapes Go.WideShapes
set_option linter.unusedVariables false
set_option linter.unusedSimpArgs false

/-- The fields are of just all keys, in order, and each has at first what lies within its bounds. -/
structure Fields (C : Cf) (s w : Nat) (M : List D) : Prop where
  s1 : 1 ≤ s
  s4 : s ≤ 4
  w1 : 1 ≤ w
  w4 : w ≤ 4
  cs : C.s = s
  cw : C.w = w
  len : C.fn = (allQ s w 5).length
  key : ∀ j, j < C.fn → (M.getD j d0).1 = (allQ s w 5).getD j (0, 0, 0)
  bounds : ∀ j, j < C.fn → (M.getD j d0).2.1 ≤ (M.getD j d0).2.2.1 ∧ (M.getD j d0).2.2.1 ≤ (M.getD j d0).2.2.2
theorem all_len (s w : Nat) (hs : 1 ≤ s ∧ s ≤ 4) (hw : 1 ≤ w ∧ w ≤ 4) : (allQ s w 5).length ≤ 80 := by
  have h := (chk s w hs hw).1
  have := below_bounds s w (by omega) (by omega) (by omega) (by omega) 5
  omega
theorem heldc_step {W w1 w2 : World} {X : Nat} {u0 u1 u2 : Value} {p : Option Addr} {n c : Nat} {M : List D} (h : Below w1.heap.size w1 w2)
    (hS : w1.cell? ⟨X, 0, none⟩ = some u0 ∧ w1.cell? ⟨X, 1, none⟩ = some u1 ∧ w1.cell? ⟨X, 2, none⟩ = some u2 ∧ Hid (Below W.heap.size W w1) ∧ Hid (DL w1 p n c M)) :
    w2.cell? ⟨X, 0, none⟩ = some u0 ∧ w2.cell? ⟨X, 1, none⟩ = some u1 ∧ w2.cell? ⟨X, 2, none⟩ = some u2 ∧ Hid (Below W.heap.size W w2) ∧ Hid (DL w2 p n c M) := by
  obtain ⟨h0, h1, h2, h3, h4⟩ := hS
  exact ⟨(h.cell (World.block_lt_of_cell? _ _ h0)).trans h0, (h.cell (World.block_lt_of_cell? _ _ h1)).trans h1, (h.cell (World.block_lt_of_cell? _ _ h2)).trans h2, Lib.hid (h3.out.trans (h.mono h3.out.size)), Lib.hid (h4.out.later h)⟩
set_option maxHeartbeats 2000000 in
theorem keyed_in (C : Cf) (s w : Nat) (M : List D) (hF : Fields C s w M) (W : World) (hM : DL W C.fp C.fn C.fc M) : Calls Try.prog 26 #[.agg (cc C)] W fun e w' => e = .returned (.bool true) ∧ Below W.heap.size W w' := by
  have HA := Lib.hid fun W => all_some s w ⟨hF.s1, hF.s4⟩ ⟨hF.w1, hF.w4⟩ W
  have hl := all_len s w ⟨hF.s1, hF.s4⟩ ⟨hF.w1, hF.w4⟩
  have HLEN := Lib.hid hF.len
  have hn : C.fn ≤ 100000 := by rw [hF.len]; omega
  have HE := Lib.hid fun (p : Option Addr) (n c : Nat) (p' : Option Addr) (c' : Nat) (W : World) (hn : n = C.fn) (h1 : DL W p n c M) (h2 : KL W p' n c' (allQ s w 5)) => eqfunc_in p n c M p' c' (allQ s w 5) W h1 h2 (by omega) (fun j hj => hF.key j (by omega))
  have HCS := Lib.hid hF.cs
  have HCW := Lib.hid hF.cw
  clear hF hl hn
  generalize allQ s w 5 = L at *
  have HB1 := Lib.hid ((Below.refl W.heap.size W).alloc (Nat.le_refl _) (.cells (cc C) 30))
  have HX0 := Lib.hid (CB.new W C)
  have HM := Lib.hid (hM.later ((Below.refl _ _).alloc (Nat.le_refl _) (.cells (cc C) 30)))
  clear hM
  go_enter Try.func26, Try.ntmps26
  go_wp2_with fail
  generalize W.alloc (.cells (cc C) 30) = W1 at *
  generalize hX : W.heap.size = X at *
  have HX := Lib.hid hX
  clear hX
  have z0 := block_cell (j := 0) HX0.out (v := .int .i64 C.s) rfl
  have z1 := block_cell (j := 1) HX0.out (v := .int .i64 C.w) rfl
  have z2 := block_cell (j := 2) HX0.out (v := .slice C.fp C.fn C.fc) rfl
  rw [HCS.out] at z0
  rw [HCW.out] at z1
  obtain ⟨cs, cw, fp, fn, fc, pr, sg, od, rt, se, cp, bk, bs⟩ := C
  simp only at *
  have hS0 : (fun w' => w'.cell? ⟨X, 0, none⟩ = some (.int .i64 s) ∧ w'.cell? ⟨X, 1, none⟩ = some (.int .i64 w) ∧ w'.cell? ⟨X, 2, none⟩ = some (.slice fp fn fc) ∧ Hid (Below W.heap.size W w') ∧ Hid (DL w' fp fn fc M)) W1.drew :=
    ⟨z0, z1, z2, Lib.hid (by rw [HX.out]; exact HB1.out.drew), Lib.hid (HM.out.later (Below.refl _ _).drew)⟩
  clear z0 z1 z2 HX0 HB1 HM
  go_region_held (fun w' => w'.cell? ⟨X, 0, none⟩ = some (.int .i64 s) ∧ w'.cell? ⟨X, 1, none⟩ = some (.int .i64 w) ∧ w'.cell? ⟨X, 2, none⟩ = some (.slice fp fn fc) ∧ Hid (Below W.heap.size W w') ∧ Hid (DL w' fp fn fc M)) (first | exact hS0 | assumption) (first
    | (go_at_call 30; refine (HA.out _).mono ?_; rintro e w' ⟨p2, c2, rfl, hk2, h⟩; have h' := heldc_step (W := W) h (by assumption); have HK2 := Lib.hid hk2; clear hk2; rw [← HLEN.out] at HK2 ⊢)
    | (go_at_call 34; refine (HE.out _ _ _ _ _ _ rfl (by assumption : (fun w' => w'.cell? ⟨X, 0, none⟩ = some (.int .i64 s) ∧ w'.cell? ⟨X, 1, none⟩ = some (.int .i64 w) ∧ w'.cell? ⟨X, 2, none⟩ = some (.slice fp fn fc) ∧ Hid (Below W.heap.size W w') ∧ Hid (DL w' fp fn fc M)) _).2.2.2.2.out HK2.out).mono ?_; rintro e w' ⟨rfl, h⟩; have h' := heldc_step (W := W) h (by assumption); have HZ := h'.2.2.2.1))
  all_goals
    go_wp2_with fail
    go_ret
    exact ⟨rfl, HZ.out⟩
def checkI (C : Cf) (b : Nat) : Int := if C.cp ≤ C.se then 5 else if C.bs < (2 * areaN C b + 2 : Nat) then 4 else 0
set_option maxHeartbeats 4000000 in
theorem check_in (C : Cf) (s w b : Nat) (M : List D) (hI : CfIn C) (hb : C.bk = b) (hR : Ranked C s w) (hF : Fields C s w M) (W : World) (hM : DL W C.fp C.fn C.fc M) : Calls Try.prog 13 #[.agg (cc C)] W fun e w' => e = .returned (.int .i64 (checkI C b)) ∧ Below W.heap.size W w' := by
  have hl := all_len s w ⟨hF.s1, hF.s4⟩ ⟨hF.w1, hF.w4⟩
  have hn : C.fn ≤ 100000 := by rw [hF.len]; omega
  have HS := Lib.hid fun W => sized_in C hI W
  have HK := Lib.hid fun W h => keyed_in C s w M hF W h
  have HBD := Lib.hid fun W h => bounded_in C.fp C.fn C.fc M W h (by omega) hF.bounds
  have HRK := Lib.hid fun W => ranked_in C s w hR W
  have HND := Lib.hid fun W => need_any C b hb (by have := hI.bk1; omega) (by have := hI.bk2; omega) (by omega) W
  have hCH : checkI C b = if C.cp ≤ C.se then 5 else if C.bs < (2 * areaN C b + 2 : Nat) then 4 else 0 := rfl
  rw [hCH]
  clear hCH hl hn hF hR hI hb
  generalize 2 * areaN C b + 2 = nd at *
  have HB1 := Lib.hid ((Below.refl W.heap.size W).alloc (Nat.le_refl _) (.cells (cc C) 30))
  have HC1 := Lib.hid (CB.new W C)
  have HM1 := Lib.hid (hM.later ((Below.refl _ _).alloc (Nat.le_refl _) (.cells (cc C) 30)))
  clear hM
  go_enter Try.func13, Try.ntmps13
  go_upto_region 1 with (fail)
  generalize W.alloc (.cells (cc C) 30) = W1 at *
  generalize hX : W.heap.size = X at *
  have HX := Lib.hid hX
  clear hX
  go_wp2_with (first | ((with_reducible refine wpList_load_cf HC1.out ?_ ?_); rfl))
  refine (HS.out _).mono ?_
  rintro e W2 ⟨rfl, h⟩
  have HB2 := Lib.hid (HB1.out.trans (h.mono (by have := HB1.out.size; rw [HX.out] at this; exact this)))
  have HC2 := Lib.hid (HC1.out.later h)
  have HM2 := Lib.hid (HM1.out.later h)
  clear h HB1 HC1 HM1 HS
  go_wp2_with (first | ((with_reducible refine wpList_load_cf HC2.out ?_ ?_); rfl))
  refine (HK.out _ HM2.out).mono ?_
  rintro e W3 ⟨rfl, h⟩
  have HB3 := Lib.hid (HB2.out.trans (h.mono (by have := HB2.out.size; rw [HX.out] at this; exact this)))
  have HC3 := Lib.hid (HC2.out.later h)
  have HM3 := Lib.hid (HM2.out.later h)
  clear h HB2 HC2 HM2 HK
  have z2 := block_cell (j := 2) HC3.out (v := .slice C.fp C.fn C.fc) rfl
  go_wp2_with fail
  refine (HBD.out _ HM3.out).mono ?_
  rintro e W4 ⟨rfl, h⟩
  have HB4 := Lib.hid (HB3.out.trans (h.mono (by have := HB3.out.size; rw [HX.out] at this; exact this)))
  have HC4 := Lib.hid (HC3.out.later h)
  clear h HB3 HC3 HM3 HBD z2
  go_wp2_with (first | ((with_reducible refine wpList_load_cf HC4.out ?_ ?_); rfl))
  refine (HRK.out _).mono ?_
  rintro e W5 ⟨rfl, h⟩
  have HB5 := Lib.hid (HB4.out.trans (h.mono (by have := HB4.out.size; rw [HX.out] at this; exact this)))
  have HC5 := Lib.hid (HC4.out.later h)
  clear h HB4 HC4 HRK
  have z7 := block_cell (j := 22) HC5.out (v := .int .i64 C.se) rfl
  have z8 := block_cell (j := 23) HC5.out (v := .int .i64 C.cp) rfl
  by_cases h5 : C.cp ≤ C.se
  · go_wp2_with fail
    go_ret
    exact ⟨rfl, by rw [HX.out]; exact HB5.out⟩
  · have z10 := fun p : After W5 => block_cell (j := 25) (HC5.out.later p.h) (v := .int .i64 C.bs) rfl
    go_wp2_with fail
    refine wp_region_after (by kernel_rfl) (by kernel_rfl) ?_
    repeat (first | (go_big_quiet_want; (with_reducible refine quiet_load_cf HC5.out ?_ ?_); rfl; go_simp; go_big_quiet_on) | go_big_quiet_step (first | (go_at_call 21; exact calls_after _ (HND.out _))))
    refine wpQuiet_nil ?_
    intro w4 hw'
    obtain ⟨⟨wq, h6⟩, hw''⟩ := hw'
    subst hw''
    have HB6 := Lib.hid (HB5.out.trans (h6.mono (by have := HB5.out.size; rw [HX.out] at this; exact this)))
    clear z7 z8 z10 h6
    by_cases h7 : C.bs < (nd : Int)
    · go_wp2_with fail
      go_ret
      exact ⟨rfl, by rw [HX.out]; exact HB6.out⟩
    · go_wp2_with fail
      go_ret
      exact ⟨rfl, by rw [HX.out]; exact HB6.out⟩
end Go.Proofs.Ythkeefdapnkgeaa
