/- Check's parts, where all is well: sized, keyed, bounded. -/
import Derived.Test.YthkeefdapnkgeaaConfNeed
import Derived.Test.YthkeefdapnkgeaaKeyEq
namespace Go.Proofs.Ythkeefdapnkgeaa
open Go.RowKit Go.ChangeShapes Go.WideShapes
set_option linter.unusedVariables false
set_option linter.unusedSimpArgs false

/-- The numbers are within their limits. -/
structure CfIn (C : Cf) : Prop where
  s1 : 1 ≤ C.s
  s2 : C.s ≤ 4
  w1 : 1 ≤ C.w
  w2 : C.w ≤ 4
  sg1 : 1 ≤ C.sg
  sg2 : C.sg ≤ 8
  od1 : 1 ≤ C.od
  od2 : C.od ≤ 32
  rt1 : 0 ≤ C.rt
  rt2 : C.rt ≤ 4
  se1 : 64 ≤ C.se
  se2 : C.se ≤ 4096
  cp1 : 1 ≤ C.cp
  cp2 : C.cp ≤ 1048576
  bk1 : 64 ≤ C.bk
  bk2 : C.bk ≤ 4096
  bs1 : 1 ≤ C.bs
  bs2 : C.bs ≤ 1024
theorem within_in (x lo hi : Int) (h1 : lo ≤ x) (h2 : x ≤ hi) (W : World) : Calls Try.prog 33 #[.int .i64 x, .int .i64 lo, .int .i64 hi] W fun e w' => e = .returned (.bool true) ∧ w' = W := by
  have h := within_any x lo hi W
  have e : keptI x lo hi = x := by
    unfold keptI
    repeat' split
    all_goals omega
  rw [e, beq_self_eq_true] at h
  exact h
set_option maxHeartbeats 1000000 in
theorem sized_in (C : Cf) (h : CfIn C) (W : World) : Calls Try.prog 25 #[.agg (cc C)] W fun e w' => e = .returned (.bool true) ∧ Below W.heap.size W w' := by
  have h1 := fun W => within_in C.s 1 4 h.s1 h.s2 W
  have h2 := fun W => within_in C.w 1 4 h.w1 h.w2 W
  have h3 := fun W => within_in C.sg 1 8 h.sg1 h.sg2 W
  have h4 := fun W => within_in C.od 1 32 h.od1 h.od2 W
  have h5 := fun W => within_in C.rt 0 4 h.rt1 h.rt2 W
  have h6 := fun W => within_in C.se 64 4096 h.se1 h.se2 W
  have h7 := fun W => within_in C.cp 1 1048576 h.cp1 h.cp2 W
  have h8 := fun W => within_in C.bk 64 4096 h.bk1 h.bk2 W
  have h9 := fun W => within_in C.bs 1 1024 h.bs1 h.bs2 W
  clear h
  obtain ⟨s, w, fp, fn, fc, pr, sg, od, rt, se, cp, bk, bs⟩ := C
  simp only [cc] at *
  go_enter Try.func25, Try.ntmps25
  go_wp2_with fail
  refine (h1 _).mono ?_
  rintro e w' ⟨rfl, rfl⟩
  go_wp2_with fail
  refine (h2 _).mono ?_
  rintro e w' ⟨rfl, rfl⟩
  go_wp2_with fail
  refine (h3 _).mono ?_
  rintro e w' ⟨rfl, rfl⟩
  go_wp2_with fail
  refine (h4 _).mono ?_
  rintro e w' ⟨rfl, rfl⟩
  go_wp2_with fail
  refine (h5 _).mono ?_
  rintro e w' ⟨rfl, rfl⟩
  go_wp2_with fail
  refine (h6 _).mono ?_
  rintro e w' ⟨rfl, rfl⟩
  go_wp2_with fail
  refine (h7 _).mono ?_
  rintro e w' ⟨rfl, rfl⟩
  go_wp2_with fail
  refine (h8 _).mono ?_
  rintro e w' ⟨rfl, rfl⟩
  go_wp2_with fail
  refine (h9 _).mono ?_
  rintro e w' ⟨rfl, rfl⟩
  go_wp2_with fail
  go_ret
  exact ⟨rfl, (Below.refl _ _).alloc (Nat.le_refl _) _⟩
set_option maxHeartbeats 1000000 in
theorem bounded_in (p : Option Addr) (n c : Nat) (M : List D) (W : World) (hM : DL W p n c M) (hn : n ≤ 100000) (hok : ∀ j, j < n → (M.getD j d0).2.1 ≤ (M.getD j d0).2.2.1 ∧ (M.getD j d0).2.2.1 ≤ (M.getD j d0).2.2.2) :
    Calls Try.prog 27 #[.slice p n c] W fun e w' => e = .returned (.bool true) ∧ Below W.heap.size W w' := by
  have HM := Lib.hid hM
  have HOK := Lib.hid hok
  clear hM hok
  go_enter Try.func27, Try.ntmps27
  go_wp2_with fail
  go_loopw [7] (fun i wr => ∃ j : Nat, j ≤ n ∧ i = .int .i64 j ∧ Hid (Below W.heap.size W wr)) (fun i _ => n - (intOf i).toNat)
  case atStart => exact ⟨0, Nat.zero_le _, rfl, Lib.hid (Below.refl _ _)⟩
  case round =>
    obtain ⟨j, hj, rfl, HB⟩ := hrel
    by_cases hlt : j < n
    · have hlt' : (j : Int) < n := by omega
      obtain ⟨b, off, rfl, _, c0, c1, c2, c3, c4, c5⟩ := decl_cells (HM.out.later HB.out) hlt
      obtain ⟨g1, g2⟩ := HOK.out j hlt
      generalize M.getD j d0 = x at *
      have q1 : decide (x.2.2.1 < x.2.1) = false := decide_eq_false (by omega)
      have q2 : decide (x.2.2.2 < x.2.2.1) = false := decide_eq_false (by omega)
      go_wp2_with fail
      go_roundw
      case rel => exact ⟨j + 1, by omega, by go_num, Lib.hid (HB.out.alloc HB.out.size _)⟩
      case measure => simp [intOf]; omega
    · obtain rfl : n = j := by omega
      go_wp2_with fail
      go_ret
      exact ⟨rfl, HB.out⟩
theorem keyed1_any (d : D) (k : K) (W : World) : Calls Try.prog 35 #[.agg #[.int .u8 d.1.1, .int .u8 d.1.2.1, .int .u8 d.1.2.2, .int .i64 d.2.1, .int .i64 d.2.2.1, .int .i64 d.2.2.2], .agg #[.int .u8 k.1, .int .u8 k.2.1, .int .u8 k.2.2]] W fun e w' => e = .returned (.bool (decide (d.1 = k))) ∧ Below W.heap.size W w' := by
  have qn := fun W => key_eql d.1.1 d.1.2.1 d.1.2.2 k.1 k.2.1 k.2.2 W
  have hd : decide (((d.1.1, d.1.2.1, d.1.2.2) : K) = (k.1, k.2.1, k.2.2)) = decide (d.1 = k) := rfl
  rw [hd] at qn
  generalize decide (d.1 = k) = r at *
  clear hd
  go_enter Try.func35, Try.ntmps35
  go_wp2_with fail
  go_ret
  exact ⟨rfl, ((Below.refl _ _).alloc (Nat.le_refl _) _).alloc (by simp) _⟩
set_option maxHeartbeats 1000000 in
theorem eqfunc_in (p : Option Addr) (n c : Nat) (M : List D) (p' : Option Addr) (c' : Nat) (L : List K) (W : World) (hM : DL W p n c M) (hL : KL W p' n c' L) (hn : n ≤ 100000) (hk : ∀ j, j < n → (M.getD j d0).1 = L.getD j (0, 0, 0)) :
    Calls Try.prog 34 #[.slice p n c, .slice p' n c', .func (.func 35) #[] #[]] W fun e w' => e = .returned (.bool true) ∧ Below W.heap.size W w' := by
  have HM := Lib.hid hM
  have HL := Lib.hid hL
  have HK := Lib.hid hk
  clear hM hL hk
  go_enter Try.func34, Try.ntmps34
  go_wp2_with fail
  go_loopw [17] (fun i wr => ∃ j : Nat, j ≤ n ∧ i = .int .i64 j ∧ Hid (Below W.heap.size W wr)) (fun i _ => n - (intOf i).toNat)
  case atStart => exact ⟨0, Nat.zero_le _, rfl, Lib.hid (Below.refl _ _)⟩
  case round =>
    obtain ⟨j, hj, rfl, HB⟩ := hrel
    by_cases hlt : j < n
    · have hlt' : (j : Int) < n := by omega
      obtain ⟨b, off, rfl, _, c0, c1, c2, c3, c4, c5⟩ := decl_cells (HM.out.later HB.out) hlt
      obtain ⟨b', off', rfl, hc⟩ := (HL.out.later HB.out).cell (by omega)
      obtain ⟨e0, e1, e2⟩ := hc j hlt
      have hkj := HK.out j hlt
      clear hc
      generalize M.getD j d0 = x at *
      rw [← hkj] at e0 e1 e2
      have hk1 := fun W => keyed1_any x x.1 W
      rw [decide_eq_true rfl] at hk1
      clear hkj
      have hbl : b' < wr.heap.size := World.block_lt_of_cell? _ _ e0
      go_wp2_with fail
      refine (hk1 _).mono ?_
      rintro e w' ⟨rfl, hb⟩
      have HB2 := Lib.hid (((HB.out.alloc HB.out.size _).alloc (by have := HB.out.size; simp; omega) _).trans (hb.mono (by have := HB.out.size; simp; omega)))
      go_wp2_with fail
      go_roundw
      case rel => exact ⟨j + 1, by omega, by go_num, HB2⟩
      case measure => simp [intOf]; omega
    · obtain rfl : n = j := by omega
      go_wp2_with fail
      go_ret
      exact ⟨rfl, HB.out⟩
end Go.Proofs.Ythkeefdapnkgeaa
