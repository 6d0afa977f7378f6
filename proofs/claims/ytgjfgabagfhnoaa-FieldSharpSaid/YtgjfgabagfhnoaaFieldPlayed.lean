/- What is granted of a run of additions. (Written by tools/src/mkfieldplayed.py.) -/
import Derived.Test.YtgjfgabagfhnoaaFieldPlay
import Derived.Deep.Cut
namespace Go.Proofs.Ytgjfgabagfhnoaa
open Go.RowKit Go.ChangeShapes Go.WideShapes
set_option linter.unusedVariables false
set_option linter.unusedSimpArgs false
set_option maxRecDepth 10000

set_option maxHeartbeats 4000000 in
theorem played_any (k0 k1 k2 lo init hi : Int) (p : Option Addr) (n m : Nat) (A : List Int) (q : Option Addr) (n2 m2 : Nat) (W : World) (hlo : I64 lo) (hin : I64 init) (hhi : I64 hi) (hA : NL .i64 W p n m A) (hI : ∀ x ∈ A, I64 x) :
    Calls Try.prog 23 #[.agg #[.int .u8 k0, .int .u8 k1, .int .u8 k2, .int .i64 lo, .int .i64 init, .int .i64 hi, .slice p n m, .slice q n2 m2]] W fun e w' => ∃ v, e = .returned (.tuple #[.agg (fcs (playS (newF lo init hi).1 (A.take 40)).1), v, .bool ((newF lo init hi).2 == 0)]) ∧ w'.ownsRow W.heap.size 2 1 v (playS (newF lo init hi).1 (A.take 40)).2.length (flatG (ni .i64) (playS (newF lo init hi).1 (A.take 40)).2) ∧ Below W.heap.size W w' := by
  have HN := Lib.hid fun w => new_any k0 k1 k2 lo init hi w
  have hk0 : Fok (newF lo init hi).1 := by
    unfold newF
    split
    · exact ⟨hlo, hhi, hin, hin, hin, hin⟩
    · exact ⟨by decide, by decide, by decide, by decide, by decide, by decide⟩
  generalize newF lo init hi = nf at *
  obtain ⟨f0, e0⟩ := nf
  replace hk0 : Fok f0 := hk0
  dsimp only
  obtain ⟨S40, hS40⟩ : ∃ S40, playS f0 (A.take 40) = S40 := ⟨_, rfl⟩
  rw [hS40]
  obtain ⟨⟨z1, z2, z3, z4, z5, z6⟩, ZL⟩ := S40
  have HS40 := Lib.hid hS40
  clear hS40
  have hlen := hA.len
  have hcap := hA.cap
  have hmax := hA.max
  unfold maxLen at hmax
  have HST := Lib.hid fun j (hj : j < n) => playS_take f0 A j (by omega)
  have HFK := Lib.hid fun j => playS_fok (A.take j) (f0, []) hk0
  have HLE := Lib.hid fun j (hj : j ≤ n) => (show (playS f0 (A.take j)).2.length ≤ j from by have := playS_len (A.take j) (f0, []); simp only [List.length_take, List.length_nil] at this; exact Nat.le_trans this (by omega))
  have HXI := Lib.hid fun j (hj : j < n) => (show I64 (A.getD j 0) from hI _ (by rw [List.getD, List.getElem?_eq_getElem (by omega)]; exact List.getElem_mem _))
  have HA := Lib.hid hA
  have HAL := Lib.hid hlen
  obtain ⟨hb0, hx0, hr0⟩ := two_boxes W #[.int .u8 k0, .int .u8 k1, .int .u8 k2, .int .i64 lo, .int .i64 init, .int .i64 hi, .slice p n m, .slice q n2 m2] #[.int .i64 0, .int .i64 0, .int .i64 0, .int .i64 0, .int .i64 0, .int .i64 0] 49 23
  have HB0 := Lib.hid hb0
  have HX0 := Lib.hid hx0
  have HR0 := Lib.hid hr0
  obtain ⟨X, hX⟩ : ∃ X, W.heap.size = X := ⟨_, rfl⟩
  have HHX := Lib.hid hX
  rw [hX] at HX0 HR0
  clear hb0 hx0 hr0 hA hI hlo hin hhi hk0 hlen
  go_enter Try.func23, Try.ntmps23
  go_upto_region 1 with (fail)
  clear hX
  generalize (W.alloc (.cells #[.int .u8 k0, .int .u8 k1, .int .u8 k2, .int .i64 lo, .int .i64 init, .int .i64 hi, .slice p n m, .slice q n2 m2] 49)).alloc (.cells #[.int .i64 0, .int .i64 0, .int .i64 0, .int .i64 0, .int .i64 0, .int .i64 0] 23) = V0 at *
  have HXR : Hid (X < X + 1) := Lib.hid (by omega)
  generalize X + 1 = R at *
  obtain ⟨x0, x1, x2, x3, x4, x5, x6, x7⟩ := rcells HX0.out
  go_wp2_with fail
  clear x0 x1 x2 x3 x4 x5 x6 x7
  refine (HN.out _).mono ?_
  rintro e1 w1 ⟨rfl, hb1⟩
  simp only []
  have HS0 : Hid (playS f0 (A.take 0) = (f0, [])) := Lib.hid rfl
  obtain ⟨a1, a2, a3, a4, a5, a6⟩ := f0
  have hbn : Below w1.heap.size w1 (w1.alloc (.cells #[.int .i64 a1, .int .i64 a2, .int .i64 a3, .int .i64 a4, .int .i64 a5, .int .i64 a6] 23)) := (Below.refl _ _).alloc (Nat.le_refl _) _
  have HX1 := Lib.hid (block_later (block_later HX0.out hb1) hbn)
  have HR1 := Lib.hid (block_later (block_later HR0.out hb1) hbn)
  have HY1 := Lib.hid (alloc_block w1 (.cells #[.int .i64 a1, .int .i64 a2, .int .i64 a3, .int .i64 a4, .int .i64 a5, .int .i64 a6] 23))
  have HXY : Hid (X < w1.heap.size ∧ R < w1.heap.size) := Lib.hid ⟨block_lt (block_later HX0.out hb1), block_lt (block_later HR0.out hb1)⟩
  have HB1 := Lib.hid (HB0.out.trans ((hb1.trans (hbn.mono hb1.size)).mono HB0.out.size))
  clear hbn hb1 HB0 HX0 HR0 HN
  go_wp2_with fail
  generalize w1.alloc (.cells #[.int .i64 a1, .int .i64 a2, .int .i64 a3, .int .i64 a4, .int .i64 a5, .int .i64 a6] 23) = W1 at *
  generalize w1.heap.size = Y at *
  have HYL := Lib.hid (block_lt HY1.out)
  go_loopw [7, 8] (fun v i wr => ∃ j : Nat, j ≤ n ∧ j ≤ 40 ∧ i = .int .i64 (j : Int) ∧ Hid (Pg W1 wr Y v (playS ⟨a1, a2, a3, a4, a5, a6⟩ (A.take j)).1 (playS ⟨a1, a2, a3, a4, a5, a6⟩ (A.take j)).2)) (fun _ i _ => 40 - (Go.RowKit.intOf i).toNat)
  case atStart => exact ⟨0, Nat.zero_le _, Nat.zero_le _, rfl, Lib.hid ⟨by rw [HS0.out]; exact HY1.out, by rw [HS0.out]; exact World.ownsRow_nil _ _ _ _, Chg.refl _ _⟩⟩
  case round =>
    obtain ⟨j, hjn, hj40, rfl, HF⟩ := hrel
    have HXw := Lib.hid ((HF.out.chg.block X (block_lt HX1.out) (Nat.ne_of_lt HXY.out.1)).trans HX1.out)
    have HRw := Lib.hid ((HF.out.chg.block R (block_lt HR1.out) (Nat.ne_of_lt HXY.out.2)).trans HR1.out)
    obtain ⟨x0, x1, x2, x3, x4, x5, x6, x7⟩ := rcells HXw.out
    by_cases h1 : j < n ∧ j < 40
    · obtain ⟨t1, t2⟩ := h1
      have t3 : (j : Int) < n := by omega
      have t4 : (j : Int) < 40 := by omega
      obtain ⟨b, off, rfl, hblt, hcx⟩ := num_cell HA.out t1
      have hst := HST.out j t1
      have hxi := HXI.out j t1
      have hfk := HFK.out j
      have hle := HLE.out j hjn
      generalize A.getD j 0 = x at *
      have HST1 := Lib.hid hst
      replace hfk : Fok (playS ⟨a1, a2, a3, a4, a5, a6⟩ (A.take j)).1 := hfk
      obtain ⟨s', hs'⟩ : ∃ s', playS ⟨a1, a2, a3, a4, a5, a6⟩ (A.take (j + 1)) = s' := ⟨_, rfl⟩
      rw [hs'] at HST1 hst
      have HSE := Lib.hid hs'
      clear hs'
      generalize playS ⟨a1, a2, a3, a4, a5, a6⟩ (A.take j) = s at *
      obtain ⟨⟨f1, f2, f3, f4, f5, f6⟩, L⟩ := s
      have HGR := Lib.hid fun w => grant_any ⟨f1, f2, f3, f4, f5, f6⟩ x w hfk hxi
      have HZ : Hid ((grantE ⟨f1, f2, f3, f4, f5, f6⟩ x = 0 → s' = (grantF ⟨f1, f2, f3, f4, f5, f6⟩ x, L ++ [x])) ∧ (grantE ⟨f1, f2, f3, f4, f5, f6⟩ x ≠ 0 → s' = (⟨f1, f2, f3, f4, f5, f6⟩, L))) := Lib.hid ⟨fun h => by rw [grantF_ok h]; exact HST1.out.trans (if_pos h), fun h => HST1.out.trans (if_neg h)⟩
      generalize grantF ⟨f1, f2, f3, f4, f5, f6⟩ x = gg at *
      generalize grantE ⟨f1, f2, f3, f4, f5, f6⟩ x = z at *
      obtain ⟨g1, g2, g3, g4, g5, g6⟩ := gg
      have HBL : Hid (b < Y) := Lib.hid (by have h1 := HXY.out.1; have h2 := HHX.out; omega)
      have hcw : wr.cell? ⟨b, off + j, none⟩ = some (.int .i64 x) := cell_chg HF.out.chg ((HB1.out.cell (p := ⟨b, off + j, none⟩) hblt).trans hcx) (Nat.ne_of_lt HBL.out)
      have hbd : SR X Y b (off + j) #[.int .u8 k0, .int .u8 k1, .int .u8 k2, .int .i64 lo, .int .i64 init, .int .i64 hi, .slice (some ⟨b, off, none⟩) n m, .slice q n2 m2] #[.int .i64 f1, .int .i64 f2, .int .i64 f3, .int .i64 f4, .int .i64 f5, .int .i64 f6] x wr.drew := ⟨HXw.out, HF.out.y, hcw⟩
      have HF2 : Hid (Pg W1 wr.drew Y u7 ⟨f1, f2, f3, f4, f5, f6⟩ L) := Lib.hid ⟨HF.out.y, HF.out.own, HF.out.chg.drewN 1⟩
      have HNE : Hid (∀ G, wr.drew.heap.size ≤ G → ¬ X = G ∧ ¬ Y = G ∧ ¬ b = G) := Lib.hid fun G hG => by
        have h1 := block_lt HF2.out.y
        have h2 := HXY.out.1
        have h3 := HBL.out
        exact ⟨by omega, by omega, by omega⟩
      have HOW : Hid (∀ k, u7.ownBlock = some k → ∀ G, wr.drew.heap.size ≤ G → ¬ k = G) := Lib.hid fun k hk G hG => by
        have h1 := (HF2.out.own.lt k hk).2
        omega
      have HLL : Hid (L.length ≤ j) := Lib.hid hle
      have HT1 := Lib.hid (And.intro hst (And.intro hcx hcw))
      clear hst hcx hcw hle HF HST1 hfk
      go_wp2_with fail
      clear x0 x1 x2 x3 x4 x5 x6 x7
      refine wp_region_held_drew (S := fun w' => Hid (SR X Y b (off + j) #[.int .u8 k0, .int .u8 k1, .int .u8 k2, .int .i64 lo, .int .i64 init, .int .i64 hi, .slice (some ⟨b, off, none⟩) n m, .slice q n2 m2] #[.int .i64 f1, .int .i64 f2, .int .i64 f3, .int .i64 f4, .int .i64 f5, .int .i64 f6] x w')) (by kernel_rfl) (Lib.hid hbd) (fun hHeld => ?_)
      clear hbd HXw HRw
      generalize wr.drew = W2 at *
      refine wpAnyH_take (i := 0) (oi := ⟨some 29, _, _, _, _, _⟩) (v := .agg #[.int .i64 f1, .int .i64 f2, .int .i64 f3, .int .i64 f4, .int .i64 f5, .int .i64 f6]) rfl (by kernel_rfl) (by kernel_rfl) (by kernel_rfl) (fun _ _ _ h => h) (Or.inl ⟨by rfl, fun w' hw' => ?_⟩) (by assumption) ?_
      · obtain ⟨c0, c1, c2, c3, c4, c5⟩ := fcells hw'.out.g
        clear hHeld
        go_simp
      simp only [Act.put, List.setIfInBounds_toArray, List.set_cons_zero, List.set_cons_succ]
      refine wpAnyH_take (i := 1) (oi := ⟨some 30, _, _, _, _, _⟩) (v := .pointer (some ⟨X, 6, none⟩)) rfl (by kernel_rfl) (by kernel_rfl) (by kernel_rfl) (fun _ _ _ h => h) (Or.inl ⟨by rfl, fun w' hw' => ?_⟩) (by assumption) ?_
      · clear hHeld
        go_simp
      simp only [Act.put, List.setIfInBounds_toArray, List.set_cons_zero, List.set_cons_succ]
      refine wpAnyH_take (i := 2) (oi := ⟨some 31, _, _, _, _, _⟩) (v := .slice (some ⟨b, off, none⟩) n m) rfl (by kernel_rfl) (by kernel_rfl) (by kernel_rfl) (fun _ _ _ h => h) (Or.inl ⟨by rfl, fun w' hw' => ?_⟩) (by assumption) ?_
      · obtain ⟨c0, c1, c2, c3, c4, c5, c6, c7⟩ := rcells hw'.out.x
        clear hHeld
        go_simp
      simp only [Act.put, List.setIfInBounds_toArray, List.set_cons_zero, List.set_cons_succ]
      refine wpAnyH_take (i := 3) (oi := ⟨some 32, _, _, _, _, _⟩) (v := .int .i64 (j : Int)) rfl (by kernel_rfl) (by kernel_rfl) (by kernel_rfl) (fun _ _ _ h => h) (Or.inl ⟨by rfl, fun w' hw' => ?_⟩) (by assumption) ?_
      · clear hHeld
        go_simp
      simp only [Act.put, List.setIfInBounds_toArray, List.set_cons_zero, List.set_cons_succ]
      refine wpAnyH_take (i := 4) (oi := ⟨some 33, _, _, _, _, _⟩) (v := .pointer (some ⟨b, off + j, none⟩)) rfl (by kernel_rfl) (by kernel_rfl) (by kernel_rfl) (fun _ _ _ h => h) (Or.inl ⟨by rfl, fun w' hw' => ?_⟩) (by assumption) ?_
      · clear hHeld
        go_simp
      simp only [Act.put, List.setIfInBounds_toArray, List.set_cons_zero, List.set_cons_succ]
      refine wpAnyH_take (i := 5) (oi := ⟨some 34, _, _, _, _, _⟩) (v := .int .i64 x) rfl (by kernel_rfl) (by kernel_rfl) (by kernel_rfl) (fun _ _ _ h => h) (Or.inl ⟨by rfl, fun w' hw' => ?_⟩) (by assumption) ?_
      · have c0 := hw'.out.c
        clear hHeld
        go_simp
      simp only [Act.put, List.setIfInBounds_toArray, List.set_cons_zero, List.set_cons_succ]
      refine wpAnyH_ready (rs := [6, 10]) (by kernel_rfl) (by simp) (AllReadyH.cons rfl (fun K hK => ?_) (AllReadyH.cons rfl (fun K hK => ?_) (AllReadyH.nil)))
      · go_simp
        go_wp2_with fail
        refine (HGR.out _).mono ?_
        rintro e4 w4 ⟨rfl, hb4⟩
        have hSN : Hid (SR X Y b (off + j) #[.int .u8 k0, .int .u8 k1, .int .u8 k2, .int .i64 lo, .int .i64 init, .int .i64 hi, .slice (some ⟨b, off, none⟩) n m, .slice q n2 m2] #[.int .i64 f1, .int .i64 f2, .int .i64 f3, .int .i64 f4, .int .i64 f5, .int .i64 f6] x w4) := Lib.hid (hHeld.out.later hb4)
        have HW4 := Lib.hid hb4
        clear hb4
        go_wp2_with fail
        refine hK.out _ _ hSN (fun hHeld2 => ?_)
        try simp only [Act.put, List.setIfInBounds_toArray, List.set_cons_zero, List.set_cons_succ]
        clear hSN hK K hHeld
        have hHeld := hHeld2
        clear hHeld2
        refine wpAnyH_take (i := 7) (oi := ⟨some 28, _, _, _, _, _⟩) (v := .tuple #[.agg #[.int .i64 g1, .int .i64 g2, .int .i64 g3, .int .i64 g4, .int .i64 g5, .int .i64 g6], .int .i64 z]) rfl (by kernel_rfl) (by kernel_rfl) (by kernel_rfl) (fun _ _ _ h => h) (Or.inl ⟨by rfl, fun w' hw' => ?_⟩) (by assumption) ?_
        · clear hHeld
          go_simp
        simp only [Act.put, List.setIfInBounds_toArray, List.set_cons_zero, List.set_cons_succ]
        refine wpAnyH_take (i := 8) (oi := ⟨some 36, _, _, _, _, _⟩) (v := .agg #[.int .i64 g1, .int .i64 g2, .int .i64 g3, .int .i64 g4, .int .i64 g5, .int .i64 g6]) rfl (by kernel_rfl) (by kernel_rfl) (by kernel_rfl) (fun _ _ _ h => h) (Or.inl ⟨by rfl, fun w' hw' => ?_⟩) (by assumption) ?_
        · clear hHeld
          go_simp
        simp only [Act.put, List.setIfInBounds_toArray, List.set_cons_zero, List.set_cons_succ]
        refine wpAnyH_take (i := 9) (oi := ⟨some 37, _, _, _, _, _⟩) (v := .int .i64 z) rfl (by kernel_rfl) (by kernel_rfl) (by kernel_rfl) (fun _ _ _ h => h) (Or.inl ⟨by rfl, fun w' hw' => ?_⟩) (by assumption) ?_
        · clear hHeld
          go_simp
        simp only [Act.put, List.setIfInBounds_toArray, List.set_cons_zero, List.set_cons_succ]
        refine wpAnyH_ready (rs := [10]) (by kernel_rfl) (by simp) (AllReadyH.cons rfl (fun K hK => ?_) (AllReadyH.nil))
        go_simp
        have hba : Below w4.heap.size w4 (w4.alloc (.cells #[.int .i64 0, .int .i64 0, .int .i64 0, .int .i64 0, .int .i64 0, .int .i64 0] 23)) := (Below.refl _ _).alloc (Nat.le_refl _) _
        have hSN : Hid (SR X Y b (off + j) #[.int .u8 k0, .int .u8 k1, .int .u8 k2, .int .i64 lo, .int .i64 init, .int .i64 hi, .slice (some ⟨b, off, none⟩) n m, .slice q n2 m2] #[.int .i64 f1, .int .i64 f2, .int .i64 f3, .int .i64 f4, .int .i64 f5, .int .i64 f6] x (w4.alloc (.cells #[.int .i64 0, .int .i64 0, .int .i64 0, .int .i64 0, .int .i64 0, .int .i64 0] 23))) := Lib.hid (hHeld.out.later hba)
        have HG4 := Lib.hid (alloc_block w4 (.cells #[.int .i64 0, .int .i64 0, .int .i64 0, .int .i64 0, .int .i64 0, .int .i64 0] 23))
        have HLT : Hid (W2.heap.size ≤ w4.heap.size) := Lib.hid HW4.out.size
        have HW5 := Lib.hid (HW4.out.trans (hba.mono HW4.out.size))
        clear hba HW4
        refine hK.out _ _ hSN (fun hHeld2 => ?_)
        try simp only [Act.put, List.setIfInBounds_toArray, List.set_cons_zero, List.set_cons_succ]
        clear hSN hK K hHeld
        have hHeld := hHeld2
        clear hHeld2
        generalize w4.alloc (.cells #[.int .i64 0, .int .i64 0, .int .i64 0, .int .i64 0, .int .i64 0, .int .i64 0] 23) = w5 at *
        generalize w4.heap.size = G at *
        refine wpAnyH_ready (rs := [11]) (by kernel_rfl) (by simp) (AllReadyH.cons rfl (fun K hK => ?_) (AllReadyH.nil))
        obtain ⟨r0, r1, r2, r3, r4, r5⟩ := fcells HG4.out
        obtain ⟨h0, h1, h2, h3, h4, h5⟩ := ffree HG4.out
        have HG5 := Lib.hid (fstored (a' := .int .i64 g1) (b' := .int .i64 g2) (c' := .int .i64 g3) (d' := .int .i64 g4) (e' := .int .i64 g5) (f' := .int .i64 g6) HG4.out)
        have hch := fput_chg w5 G (.int .i64 g1) (.int .i64 g2) (.int .i64 g3) (.int .i64 g4) (.int .i64 g5) (.int .i64 g6)
        have hSN : Hid (SR X Y b (off + j) #[.int .u8 k0, .int .u8 k1, .int .u8 k2, .int .i64 lo, .int .i64 init, .int .i64 hi, .slice (some ⟨b, off, none⟩) n m, .slice q n2 m2] #[.int .i64 f1, .int .i64 f2, .int .i64 f3, .int .i64 f4, .int .i64 f5, .int .i64 f6] x ((((((w5.setCell ⟨G, 0, none⟩ (.int .i64 g1)).setCell ⟨G, 1, none⟩ (.int .i64 g2)).setCell ⟨G, 2, none⟩ (.int .i64 g3)).setCell ⟨G, 3, none⟩ (.int .i64 g4)).setCell ⟨G, 4, none⟩ (.int .i64 g5)).setCell ⟨G, 5, none⟩ (.int .i64 g6))) := Lib.hid (hHeld.out.chg hch (fun e => (HNE.out G HLT.out).1 e) (fun e => (HNE.out G HLT.out).2.1 e) (fun e => (HNE.out G HLT.out).2.2 e))
        have HC6 := Lib.hid ((Chg.of_below (S := fun k => k = G) HW5.out).trans hch (fun _ _ h => h))
        clear hch
        go_simp
        go_wp2_with fail
        refine hK.out _ _ hSN (fun hHeld2 => ?_)
        try simp only [Act.put, List.setIfInBounds_toArray, List.set_cons_zero, List.set_cons_succ]
        clear hK K hHeld
        have hHeld := hHeld2
        clear hHeld2 r0 r1 r2 r3 r4 r5 h0 h1 h2 h3 h4 h5 HG4 HW5
        refine wpAnyH_take (i := 12) (oi := ⟨some 10, _, _, _, _, _⟩) (v := .int .i64 z) rfl (by kernel_rfl) (by kernel_rfl) (by kernel_rfl) (fun _ _ _ h => h) (Or.inl ⟨by rfl, fun w' hw' => ?_⟩) (by assumption) ?_
        · clear hHeld
          go_simp
        simp only [Act.put, List.setIfInBounds_toArray, List.set_cons_zero, List.set_cons_succ]
        refine wpAnyH_done (by kernel_rfl) ?_ _
        have HS6 := hSN
        clear hHeld hSN
        generalize ((((((w5.setCell ⟨G, 0, none⟩ (.int .i64 g1)).setCell ⟨G, 1, none⟩ (.int .i64 g2)).setCell ⟨G, 2, none⟩ (.int .i64 g3)).setCell ⟨G, 3, none⟩ (.int .i64 g4)).setCell ⟨G, 4, none⟩ (.int .i64 g5)).setCell ⟨G, 5, none⟩ (.int .i64 g6)) = w6 at *
        by_cases hz0 : z = 0
        · subst hz0
          have hz := HZ.out.1 rfl
          have HZ0 := Lib.hid hz
          clear hz
          have hbd : SR X G b (off + j) #[.int .u8 k0, .int .u8 k1, .int .u8 k2, .int .i64 lo, .int .i64 init, .int .i64 hi, .slice (some ⟨b, off, none⟩) n m, .slice q n2 m2] #[.int .i64 g1, .int .i64 g2, .int .i64 g3, .int .i64 g4, .int .i64 g5, .int .i64 g6] x w6.drew := ⟨HS6.out.x, HG5.out, HS6.out.c⟩
          have HFD : Hid (w6.drew.heap[Y]? = some (.cells #[.int .i64 f1, .int .i64 f2, .int .i64 f3, .int .i64 f4, .int .i64 f5, .int .i64 f6] 23 (0, 0))) := Lib.hid HS6.out.g
          have HCD : Hid (Chg (fun k => k = G) W2 w6.drew) := Lib.hid (HC6.out.drewN 1)
          have HOD : Hid (w6.drew.ownsRow W1.heap.size 2 1 u7 L.length (flatG (ni .i64) L)) := Lib.hid (own_chg HF2.out.own HCD.out (fun k hk e => HOW.out k hk G HLT.out e))
          have HGL : Hid (G < w6.drew.heap.size) := Lib.hid (block_lt hbd.g)
          go_wp2_with fail
          refine wp_region_held_drew (S := fun w' => Hid (SR X G b (off + j) #[.int .u8 k0, .int .u8 k1, .int .u8 k2, .int .i64 lo, .int .i64 init, .int .i64 hi, .slice (some ⟨b, off, none⟩) n m, .slice q n2 m2] #[.int .i64 g1, .int .i64 g2, .int .i64 g3, .int .i64 g4, .int .i64 g5, .int .i64 g6] x w')) (by kernel_rfl) (Lib.hid hbd) (fun hHeld => ?_)
          clear hbd HG5 HS6 HC6
          generalize w6.drew = W3 at *
          refine wpAnyH_take (i := 0) (oi := ⟨some 40, _, _, _, _, _⟩) (v := .agg #[.int .i64 g1, .int .i64 g2, .int .i64 g3, .int .i64 g4, .int .i64 g5, .int .i64 g6]) rfl (by kernel_rfl) (by kernel_rfl) (by kernel_rfl) (fun _ _ _ h => h) (Or.inl ⟨by rfl, fun w' hw' => ?_⟩) (by assumption) ?_
          · obtain ⟨c0, c1, c2, c3, c4, c5⟩ := fcells hw'.out.g
            clear hHeld
            go_simp
          simp only [Act.put, List.setIfInBounds_toArray, List.set_cons_zero, List.set_cons_succ]
          refine wpAnyH_take (i := 1) (oi := ⟨some 41, _, _, _, _, _⟩) (v := u7) rfl (by kernel_rfl) (by kernel_rfl) (by kernel_rfl) (fun _ _ _ h => h) (Or.inl ⟨by rfl, fun w' hw' => ?_⟩) (by assumption) ?_
          · clear hHeld
            go_simp
          simp only [Act.put, List.setIfInBounds_toArray, List.set_cons_zero, List.set_cons_succ]
          refine wpAnyH_take (i := 2) (oi := ⟨some 42, _, _, _, _, _⟩) (v := .pointer (some ⟨X, 6, none⟩)) rfl (by kernel_rfl) (by kernel_rfl) (by kernel_rfl) (fun _ _ _ h => h) (Or.inl ⟨by rfl, fun w' hw' => ?_⟩) (by assumption) ?_
          · clear hHeld
            go_simp
          simp only [Act.put, List.setIfInBounds_toArray, List.set_cons_zero, List.set_cons_succ]
          refine wpAnyH_take (i := 3) (oi := ⟨some 43, _, _, _, _, _⟩) (v := .slice (some ⟨b, off, none⟩) n m) rfl (by kernel_rfl) (by kernel_rfl) (by kernel_rfl) (fun _ _ _ h => h) (Or.inl ⟨by rfl, fun w' hw' => ?_⟩) (by assumption) ?_
          · obtain ⟨c0, c1, c2, c3, c4, c5, c6, c7⟩ := rcells hw'.out.x
            clear hHeld
            go_simp
          simp only [Act.put, List.setIfInBounds_toArray, List.set_cons_zero, List.set_cons_succ]
          refine wpAnyH_take (i := 4) (oi := ⟨some 44, _, _, _, _, _⟩) (v := .int .i64 (j : Int)) rfl (by kernel_rfl) (by kernel_rfl) (by kernel_rfl) (fun _ _ _ h => h) (Or.inl ⟨by rfl, fun w' hw' => ?_⟩) (by assumption) ?_
          · clear hHeld
            go_simp
          simp only [Act.put, List.setIfInBounds_toArray, List.set_cons_zero, List.set_cons_succ]
          refine wpAnyH_take (i := 5) (oi := ⟨some 45, _, _, _, _, _⟩) (v := .pointer (some ⟨b, off + j, none⟩)) rfl (by kernel_rfl) (by kernel_rfl) (by kernel_rfl) (fun _ _ _ h => h) (Or.inl ⟨by rfl, fun w' hw' => ?_⟩) (by assumption) ?_
          · clear hHeld
            go_simp
          simp only [Act.put, List.setIfInBounds_toArray, List.set_cons_zero, List.set_cons_succ]
          refine wpAnyH_take (i := 6) (oi := ⟨some 46, _, _, _, _, _⟩) (v := .int .i64 x) rfl (by kernel_rfl) (by kernel_rfl) (by kernel_rfl) (fun _ _ _ h => h) (Or.inl ⟨by rfl, fun w' hw' => ?_⟩) (by assumption) ?_
          · have c0 := hw'.out.c
            clear hHeld
            go_simp
          simp only [Act.put, List.setIfInBounds_toArray, List.set_cons_zero, List.set_cons_succ]
          refine wpAnyH_ready (rs := [7]) (by kernel_rfl) (by simp) (AllReadyH.cons rfl (fun K hK => ?_) (AllReadyH.nil))
          go_simp
          have hba : Below W3.heap.size W3 (W3.alloc (.cells #[.int .i64 x] 2)) := (Below.refl _ _).alloc (Nat.le_refl _) _
          have hSN : Hid (SR X G b (off + j) #[.int .u8 k0, .int .u8 k1, .int .u8 k2, .int .i64 lo, .int .i64 init, .int .i64 hi, .slice (some ⟨b, off, none⟩) n m, .slice q n2 m2] #[.int .i64 g1, .int .i64 g2, .int .i64 g3, .int .i64 g4, .int .i64 g5, .int .i64 g6] x (W3.alloc (.cells #[.int .i64 x] 2))) := Lib.hid (hHeld.out.later hba)
          have HBX := Lib.hid (alloc_block W3 (.cells #[.int .i64 x] 2))
          have HYD := Lib.hid (block_later HFD.out hba)
          have HOA := Lib.hid (own_chg HOD.out (Chg.of_below (S := fun _ => False) hba) (fun _ _ h => h))
          have HCA := Lib.hid (HCD.out.trans (Chg.of_below (S := fun k => k = G) hba) (fun _ _ h => h))
          clear hba
          refine hK.out _ _ hSN (fun hHeld2 => ?_)
          try simp only [Act.put, List.setIfInBounds_toArray, List.set_cons_zero, List.set_cons_succ]
          clear hSN hK K hHeld
          have hHeld := hHeld2
          clear hHeld2
          clear HFD HOD HCD
          generalize W3.alloc (.cells #[.int .i64 x] 2) = W4 at *
          generalize W3.heap.size = B4 at *
          refine wpAnyH_ready (rs := [8]) (by kernel_rfl) (by simp) (AllReadyH.cons rfl (fun K hK => ?_) (AllReadyH.nil))
          refine step_append_vals (by decide) Try.underlying46 info_i64 rfl (by omega) rfl (.tmp 41) (.tmp 47) rfl u7 L.length (flatG (ni .i64) L) (by simp [Act.eval]) (own_zero HOA.out) (some ⟨B4, 0, none⟩) 1 1 [.int .i64 x] (by simp [Act.eval]) rfl (fun h => by cases h) (fun ad had i u hu => by cases had; obtain ⟨rfl, rfl⟩ : i = 0 ∧ u = .int .i64 x := (by cases i with | zero => exact ⟨rfl, by simpa using hu.symm⟩ | succ i => simp at hu); exact block_cell HBX.out rfl) (ni_one .i64 x) (by have := HLL.out; omega) ?_
          intro p8 c8 w8 g1' g2' g3'
          have hSN : Hid (SR X G b (off + j) #[.int .u8 k0, .int .u8 k1, .int .u8 k2, .int .i64 lo, .int .i64 init, .int .i64 hi, .slice (some ⟨b, off, none⟩) n m, .slice q n2 m2] #[.int .i64 g1, .int .i64 g2, .int .i64 g3, .int .i64 g4, .int .i64 g5, .int .i64 g6] x w8) := Lib.hid (hHeld.out.chg g2' (fun e => absurd (HOA.out.lt X e).1 (by have := HXY.out.1; have := HYL.out; omega)) (fun e => HOW.out G e G HLT.out rfl) (fun e => absurd (HOA.out.lt b e).1 (by have := HBL.out; have := HYL.out; omega)))
          have hyd := (g2'.block Y (block_lt HYD.out) (fun e => absurd (HOA.out.lt Y e).1 (by have := HYL.out; omega))).trans HYD.out
          have HYE := Lib.hid hyd
          have HCE := Lib.hid g2'
          have HR8 := Lib.hid g1'
          have HO8 : Hid (∀ k, (Value.slice p8 (L.length + 1) c8).ownBlock = some k → W1.heap.size ≤ k) := Lib.hid fun k hk => by
            rcases g3' k hk with h | h
            · exact (HOA.out.lt k h).1
            · have := HCA.out.size
              have := HF2.out.chg.size
              omega
          clear g1' g2' g3' hyd HBX HYD
          refine hK.out _ _ hSN (fun hHeld2 => ?_)
          try simp only [Act.put, List.setIfInBounds_toArray, List.set_cons_zero, List.set_cons_succ]
          clear hSN hK K hHeld
          have hHeld := hHeld2
          clear hHeld2
          refine wpAnyH_ready (rs := [9]) (by kernel_rfl) (by simp) (AllReadyH.cons rfl (fun K hK => ?_) (AllReadyH.nil))
          obtain ⟨r0, r1, r2, r3, r4, r5⟩ := fcells HYE.out
          obtain ⟨h0, h1, h2, h3, h4, h5⟩ := ffree HYE.out
          have HYF := Lib.hid (fstored (a' := .int .i64 g1) (b' := .int .i64 g2) (c' := .int .i64 g3) (d' := .int .i64 g4) (e' := .int .i64 g5) (f' := .int .i64 g6) HYE.out)
          have hch := fput_chg w8 Y (.int .i64 g1) (.int .i64 g2) (.int .i64 g3) (.int .i64 g4) (.int .i64 g5) (.int .i64 g6)
          have hSN : Hid (SR X G b (off + j) #[.int .u8 k0, .int .u8 k1, .int .u8 k2, .int .i64 lo, .int .i64 init, .int .i64 hi, .slice (some ⟨b, off, none⟩) n m, .slice q n2 m2] #[.int .i64 g1, .int .i64 g2, .int .i64 g3, .int .i64 g4, .int .i64 g5, .int .i64 g6] x ((((((w8.setCell ⟨Y, 0, none⟩ (.int .i64 g1)).setCell ⟨Y, 1, none⟩ (.int .i64 g2)).setCell ⟨Y, 2, none⟩ (.int .i64 g3)).setCell ⟨Y, 3, none⟩ (.int .i64 g4)).setCell ⟨Y, 4, none⟩ (.int .i64 g5)).setCell ⟨Y, 5, none⟩ (.int .i64 g6))) := Lib.hid (hHeld.out.chg hch (fun e => absurd e (Nat.ne_of_lt HXY.out.1)) (fun e => (HNE.out G HLT.out).2.1 e.symm) (fun e => absurd HBL.out (by rw [e]; exact Nat.lt_irrefl _)))
          have HCF := Lib.hid hch
          clear hch
          go_simp
          go_wp2_with fail
          refine hK.out _ _ hSN (fun hHeld2 => ?_)
          try simp only [Act.put, List.setIfInBounds_toArray, List.set_cons_zero, List.set_cons_succ]
          clear hSN hK K hHeld
          have hHeld := hHeld2
          clear hHeld2 r0 r1 r2 r3 r4 r5 h0 h1 h2 h3 h4 h5 HYE
          refine wpAnyH_take (i := 10) (oi := ⟨some 7, _, _, _, _, _⟩) (v := .slice p8 (L.length + 1) c8) rfl (by kernel_rfl) (by kernel_rfl) (by kernel_rfl) (fun _ _ _ h => h) (Or.inl ⟨by rfl, fun w' hw' => ?_⟩) (by assumption) ?_
          · clear hHeld
            go_simp
          simp only [Act.put, List.setIfInBounds_toArray, List.set_cons_zero, List.set_cons_succ]
          refine wpAnyH_done (by kernel_rfl) ?_ _
          clear hHeld
          generalize ((((((w8.setCell ⟨Y, 0, none⟩ (.int .i64 g1)).setCell ⟨Y, 1, none⟩ (.int .i64 g2)).setCell ⟨Y, 2, none⟩ (.int .i64 g3)).setCell ⟨Y, 3, none⟩ (.int .i64 g4)).setCell ⟨Y, 4, none⟩ (.int .i64 g5)).setCell ⟨Y, 5, none⟩ (.int .i64 g6)) = w9 at *
          go_wp2_with fail
          go_roundw
          case rel =>
            refine ⟨j + 1, by omega, by omega, by go_num, Lib.hid ?_⟩
            rw [HSE.out, HZ0.out]
            refine ⟨HYF.out, ?_, ?_⟩
            · have hr := row_keep HR8.out HCF.out (fun k hk e => by have := HO8.out k hk; have := HYL.out; omega)
              have hb := own_base hr HO8.out
              have e1 : flatG (ni .i64) (L ++ [x]) = flatG (ni .i64) L ++ [.int .i64 x] := by rw [flatG_append, flatG_one]
              have e2 : (L ++ [x]).length = L.length + 1 := by simp
              show w9.ownsRow W1.heap.size 2 1 (.slice p8 (L.length + 1) c8) (L ++ [x]).length (flatG (ni .i64) (L ++ [x]))
              rw [e1, e2]
              exact hb
            · refine ((HF2.out.chg.trans HCA.out (fun k hk e => absurd hk (by have := HLT.out; have := HF2.out.chg.size; omega))).trans HCE.out (fun k hk e => absurd hk (by have := (HOA.out.lt k e).1; omega))).trans HCF.out (fun k hk e => e)
          case measure =>
            simp [Go.RowKit.intOf]
            omega
        · have k1 : (z == 0) = false := by simpa using hz0
          have hz := HZ.out.2 hz0
          have HZ0 := Lib.hid hz0
          clear hz0
          go_wp2_with fail
          go_roundw
          case rel =>
            refine ⟨j + 1, by omega, by omega, by go_num, Lib.hid ?_⟩
            rw [HSE.out, hz]
            exact ⟨HS6.out.g, own_chg HF2.out.own HC6.out (fun k hk e => HOW.out k hk G HLT.out e), HF2.out.chg.trans HC6.out (fun k hk e => absurd hk (by have := HLT.out; have := HF2.out.chg.size; omega))⟩
          case measure =>
            simp [Go.RowKit.intOf]
            omega
      · go_simp
        have hba : Below W2.heap.size W2 (W2.alloc (.cells #[.int .i64 0, .int .i64 0, .int .i64 0, .int .i64 0, .int .i64 0, .int .i64 0] 23)) := (Below.refl _ _).alloc (Nat.le_refl _) _
        have hSN : Hid (SR X Y b (off + j) #[.int .u8 k0, .int .u8 k1, .int .u8 k2, .int .i64 lo, .int .i64 init, .int .i64 hi, .slice (some ⟨b, off, none⟩) n m, .slice q n2 m2] #[.int .i64 f1, .int .i64 f2, .int .i64 f3, .int .i64 f4, .int .i64 f5, .int .i64 f6] x (W2.alloc (.cells #[.int .i64 0, .int .i64 0, .int .i64 0, .int .i64 0, .int .i64 0, .int .i64 0] 23))) := Lib.hid (hHeld.out.later hba)
        have HG3 := Lib.hid (alloc_block W2 (.cells #[.int .i64 0, .int .i64 0, .int .i64 0, .int .i64 0, .int .i64 0, .int .i64 0] 23))
        have HW3 := Lib.hid hba
        clear hba
        refine hK.out _ _ hSN (fun hHeld2 => ?_)
        try simp only [Act.put, List.setIfInBounds_toArray, List.set_cons_zero, List.set_cons_succ]
        clear hSN hK K hHeld
        have hHeld := hHeld2
        clear hHeld2
        generalize W2.alloc (.cells #[.int .i64 0, .int .i64 0, .int .i64 0, .int .i64 0, .int .i64 0, .int .i64 0] 23) = w3 at *
        obtain ⟨G, hG⟩ : ∃ G, W2.heap.size = G := ⟨_, rfl⟩
        have HLT : Hid (W2.heap.size ≤ G) := Lib.hid (Nat.le_of_eq hG)
        rw [hG] at HG3 ⊢
        clear hG
        refine wpAnyH_ready (rs := [6]) (by kernel_rfl) (by simp) (AllReadyH.cons rfl (fun K hK => ?_) (AllReadyH.nil))
        go_simp
        go_wp2_with fail
        refine (HGR.out _).mono ?_
        rintro e4 w5 ⟨rfl, hb4⟩
        have hSN : Hid (SR X Y b (off + j) #[.int .u8 k0, .int .u8 k1, .int .u8 k2, .int .i64 lo, .int .i64 init, .int .i64 hi, .slice (some ⟨b, off, none⟩) n m, .slice q n2 m2] #[.int .i64 f1, .int .i64 f2, .int .i64 f3, .int .i64 f4, .int .i64 f5, .int .i64 f6] x w5) := Lib.hid (hHeld.out.later hb4)
        have HG4 := Lib.hid (block_later HG3.out hb4)
        have HW5 := Lib.hid (HW3.out.trans (hb4.mono HW3.out.size))
        clear hb4 HG3 HW3
        go_wp2_with fail
        refine hK.out _ _ hSN (fun hHeld2 => ?_)
        try simp only [Act.put, List.setIfInBounds_toArray, List.set_cons_zero, List.set_cons_succ]
        clear hSN hK K hHeld
        have hHeld := hHeld2
        clear hHeld2
        refine wpAnyH_take (i := 7) (oi := ⟨some 28, _, _, _, _, _⟩) (v := .tuple #[.agg #[.int .i64 g1, .int .i64 g2, .int .i64 g3, .int .i64 g4, .int .i64 g5, .int .i64 g6], .int .i64 z]) rfl (by kernel_rfl) (by kernel_rfl) (by kernel_rfl) (fun _ _ _ h => h) (Or.inl ⟨by rfl, fun w' hw' => ?_⟩) (by assumption) ?_
        · clear hHeld
          go_simp
        simp only [Act.put, List.setIfInBounds_toArray, List.set_cons_zero, List.set_cons_succ]
        refine wpAnyH_take (i := 8) (oi := ⟨some 36, _, _, _, _, _⟩) (v := .agg #[.int .i64 g1, .int .i64 g2, .int .i64 g3, .int .i64 g4, .int .i64 g5, .int .i64 g6]) rfl (by kernel_rfl) (by kernel_rfl) (by kernel_rfl) (fun _ _ _ h => h) (Or.inl ⟨by rfl, fun w' hw' => ?_⟩) (by assumption) ?_
        · clear hHeld
          go_simp
        simp only [Act.put, List.setIfInBounds_toArray, List.set_cons_zero, List.set_cons_succ]
        refine wpAnyH_take (i := 9) (oi := ⟨some 37, _, _, _, _, _⟩) (v := .int .i64 z) rfl (by kernel_rfl) (by kernel_rfl) (by kernel_rfl) (fun _ _ _ h => h) (Or.inl ⟨by rfl, fun w' hw' => ?_⟩) (by assumption) ?_
        · clear hHeld
          go_simp
        simp only [Act.put, List.setIfInBounds_toArray, List.set_cons_zero, List.set_cons_succ]
        refine wpAnyH_ready (rs := [11]) (by kernel_rfl) (by simp) (AllReadyH.cons rfl (fun K hK => ?_) (AllReadyH.nil))
        obtain ⟨r0, r1, r2, r3, r4, r5⟩ := fcells HG4.out
        obtain ⟨h0, h1, h2, h3, h4, h5⟩ := ffree HG4.out
        have HG5 := Lib.hid (fstored (a' := .int .i64 g1) (b' := .int .i64 g2) (c' := .int .i64 g3) (d' := .int .i64 g4) (e' := .int .i64 g5) (f' := .int .i64 g6) HG4.out)
        have hch := fput_chg w5 G (.int .i64 g1) (.int .i64 g2) (.int .i64 g3) (.int .i64 g4) (.int .i64 g5) (.int .i64 g6)
        have hSN : Hid (SR X Y b (off + j) #[.int .u8 k0, .int .u8 k1, .int .u8 k2, .int .i64 lo, .int .i64 init, .int .i64 hi, .slice (some ⟨b, off, none⟩) n m, .slice q n2 m2] #[.int .i64 f1, .int .i64 f2, .int .i64 f3, .int .i64 f4, .int .i64 f5, .int .i64 f6] x ((((((w5.setCell ⟨G, 0, none⟩ (.int .i64 g1)).setCell ⟨G, 1, none⟩ (.int .i64 g2)).setCell ⟨G, 2, none⟩ (.int .i64 g3)).setCell ⟨G, 3, none⟩ (.int .i64 g4)).setCell ⟨G, 4, none⟩ (.int .i64 g5)).setCell ⟨G, 5, none⟩ (.int .i64 g6))) := Lib.hid (hHeld.out.chg hch (fun e => (HNE.out G HLT.out).1 e) (fun e => (HNE.out G HLT.out).2.1 e) (fun e => (HNE.out G HLT.out).2.2 e))
        have HC6 := Lib.hid ((Chg.of_below (S := fun k => k = G) HW5.out).trans hch (fun _ _ h => h))
        clear hch
        go_simp
        go_wp2_with fail
        refine hK.out _ _ hSN (fun hHeld2 => ?_)
        try simp only [Act.put, List.setIfInBounds_toArray, List.set_cons_zero, List.set_cons_succ]
        clear hK K hHeld
        have hHeld := hHeld2
        clear hHeld2 r0 r1 r2 r3 r4 r5 h0 h1 h2 h3 h4 h5 HG4 HW5
        refine wpAnyH_take (i := 12) (oi := ⟨some 10, _, _, _, _, _⟩) (v := .int .i64 z) rfl (by kernel_rfl) (by kernel_rfl) (by kernel_rfl) (fun _ _ _ h => h) (Or.inl ⟨by rfl, fun w' hw' => ?_⟩) (by assumption) ?_
        · clear hHeld
          go_simp
        simp only [Act.put, List.setIfInBounds_toArray, List.set_cons_zero, List.set_cons_succ]
        refine wpAnyH_done (by kernel_rfl) ?_ _
        have HS6 := hSN
        clear hHeld hSN
        generalize ((((((w5.setCell ⟨G, 0, none⟩ (.int .i64 g1)).setCell ⟨G, 1, none⟩ (.int .i64 g2)).setCell ⟨G, 2, none⟩ (.int .i64 g3)).setCell ⟨G, 3, none⟩ (.int .i64 g4)).setCell ⟨G, 4, none⟩ (.int .i64 g5)).setCell ⟨G, 5, none⟩ (.int .i64 g6)) = w6 at *
        by_cases hz0 : z = 0
        · subst hz0
          have hz := HZ.out.1 rfl
          have HZ0 := Lib.hid hz
          clear hz
          have hbd : SR X G b (off + j) #[.int .u8 k0, .int .u8 k1, .int .u8 k2, .int .i64 lo, .int .i64 init, .int .i64 hi, .slice (some ⟨b, off, none⟩) n m, .slice q n2 m2] #[.int .i64 g1, .int .i64 g2, .int .i64 g3, .int .i64 g4, .int .i64 g5, .int .i64 g6] x w6.drew := ⟨HS6.out.x, HG5.out, HS6.out.c⟩
          have HFD : Hid (w6.drew.heap[Y]? = some (.cells #[.int .i64 f1, .int .i64 f2, .int .i64 f3, .int .i64 f4, .int .i64 f5, .int .i64 f6] 23 (0, 0))) := Lib.hid HS6.out.g
          have HCD : Hid (Chg (fun k => k = G) W2 w6.drew) := Lib.hid (HC6.out.drewN 1)
          have HOD : Hid (w6.drew.ownsRow W1.heap.size 2 1 u7 L.length (flatG (ni .i64) L)) := Lib.hid (own_chg HF2.out.own HCD.out (fun k hk e => HOW.out k hk G HLT.out e))
          have HGL : Hid (G < w6.drew.heap.size) := Lib.hid (block_lt hbd.g)
          go_wp2_with fail
          refine wp_region_held_drew (S := fun w' => Hid (SR X G b (off + j) #[.int .u8 k0, .int .u8 k1, .int .u8 k2, .int .i64 lo, .int .i64 init, .int .i64 hi, .slice (some ⟨b, off, none⟩) n m, .slice q n2 m2] #[.int .i64 g1, .int .i64 g2, .int .i64 g3, .int .i64 g4, .int .i64 g5, .int .i64 g6] x w')) (by kernel_rfl) (Lib.hid hbd) (fun hHeld => ?_)
          clear hbd HG5 HS6 HC6
          generalize w6.drew = W3 at *
          refine wpAnyH_take (i := 0) (oi := ⟨some 40, _, _, _, _, _⟩) (v := .agg #[.int .i64 g1, .int .i64 g2, .int .i64 g3, .int .i64 g4, .int .i64 g5, .int .i64 g6]) rfl (by kernel_rfl) (by kernel_rfl) (by kernel_rfl) (fun _ _ _ h => h) (Or.inl ⟨by rfl, fun w' hw' => ?_⟩) (by assumption) ?_
          · obtain ⟨c0, c1, c2, c3, c4, c5⟩ := fcells hw'.out.g
            clear hHeld
            go_simp
          simp only [Act.put, List.setIfInBounds_toArray, List.set_cons_zero, List.set_cons_succ]
          refine wpAnyH_take (i := 1) (oi := ⟨some 41, _, _, _, _, _⟩) (v := u7) rfl (by kernel_rfl) (by kernel_rfl) (by kernel_rfl) (fun _ _ _ h => h) (Or.inl ⟨by rfl, fun w' hw' => ?_⟩) (by assumption) ?_
          · clear hHeld
            go_simp
          simp only [Act.put, List.setIfInBounds_toArray, List.set_cons_zero, List.set_cons_succ]
          refine wpAnyH_take (i := 2) (oi := ⟨some 42, _, _, _, _, _⟩) (v := .pointer (some ⟨X, 6, none⟩)) rfl (by kernel_rfl) (by kernel_rfl) (by kernel_rfl) (fun _ _ _ h => h) (Or.inl ⟨by rfl, fun w' hw' => ?_⟩) (by assumption) ?_
          · clear hHeld
            go_simp
          simp only [Act.put, List.setIfInBounds_toArray, List.set_cons_zero, List.set_cons_succ]
          refine wpAnyH_take (i := 3) (oi := ⟨some 43, _, _, _, _, _⟩) (v := .slice (some ⟨b, off, none⟩) n m) rfl (by kernel_rfl) (by kernel_rfl) (by kernel_rfl) (fun _ _ _ h => h) (Or.inl ⟨by rfl, fun w' hw' => ?_⟩) (by assumption) ?_
          · obtain ⟨c0, c1, c2, c3, c4, c5, c6, c7⟩ := rcells hw'.out.x
            clear hHeld
            go_simp
          simp only [Act.put, List.setIfInBounds_toArray, List.set_cons_zero, List.set_cons_succ]
          refine wpAnyH_take (i := 4) (oi := ⟨some 44, _, _, _, _, _⟩) (v := .int .i64 (j : Int)) rfl (by kernel_rfl) (by kernel_rfl) (by kernel_rfl) (fun _ _ _ h => h) (Or.inl ⟨by rfl, fun w' hw' => ?_⟩) (by assumption) ?_
          · clear hHeld
            go_simp
          simp only [Act.put, List.setIfInBounds_toArray, List.set_cons_zero, List.set_cons_succ]
          refine wpAnyH_take (i := 5) (oi := ⟨some 45, _, _, _, _, _⟩) (v := .pointer (some ⟨b, off + j, none⟩)) rfl (by kernel_rfl) (by kernel_rfl) (by kernel_rfl) (fun _ _ _ h => h) (Or.inl ⟨by rfl, fun w' hw' => ?_⟩) (by assumption) ?_
          · clear hHeld
            go_simp
          simp only [Act.put, List.setIfInBounds_toArray, List.set_cons_zero, List.set_cons_succ]
          refine wpAnyH_take (i := 6) (oi := ⟨some 46, _, _, _, _, _⟩) (v := .int .i64 x) rfl (by kernel_rfl) (by kernel_rfl) (by kernel_rfl) (fun _ _ _ h => h) (Or.inl ⟨by rfl, fun w' hw' => ?_⟩) (by assumption) ?_
          · have c0 := hw'.out.c
            clear hHeld
            go_simp
          simp only [Act.put, List.setIfInBounds_toArray, List.set_cons_zero, List.set_cons_succ]
          refine wpAnyH_ready (rs := [7]) (by kernel_rfl) (by simp) (AllReadyH.cons rfl (fun K hK => ?_) (AllReadyH.nil))
          go_simp
          have hba : Below W3.heap.size W3 (W3.alloc (.cells #[.int .i64 x] 2)) := (Below.refl _ _).alloc (Nat.le_refl _) _
          have hSN : Hid (SR X G b (off + j) #[.int .u8 k0, .int .u8 k1, .int .u8 k2, .int .i64 lo, .int .i64 init, .int .i64 hi, .slice (some ⟨b, off, none⟩) n m, .slice q n2 m2] #[.int .i64 g1, .int .i64 g2, .int .i64 g3, .int .i64 g4, .int .i64 g5, .int .i64 g6] x (W3.alloc (.cells #[.int .i64 x] 2))) := Lib.hid (hHeld.out.later hba)
          have HBX := Lib.hid (alloc_block W3 (.cells #[.int .i64 x] 2))
          have HYD := Lib.hid (block_later HFD.out hba)
          have HOA := Lib.hid (own_chg HOD.out (Chg.of_below (S := fun _ => False) hba) (fun _ _ h => h))
          have HCA := Lib.hid (HCD.out.trans (Chg.of_below (S := fun k => k = G) hba) (fun _ _ h => h))
          clear hba
          refine hK.out _ _ hSN (fun hHeld2 => ?_)
          try simp only [Act.put, List.setIfInBounds_toArray, List.set_cons_zero, List.set_cons_succ]
          clear hSN hK K hHeld
          have hHeld := hHeld2
          clear hHeld2
          clear HFD HOD HCD
          generalize W3.alloc (.cells #[.int .i64 x] 2) = W4 at *
          generalize W3.heap.size = B4 at *
          refine wpAnyH_ready (rs := [8]) (by kernel_rfl) (by simp) (AllReadyH.cons rfl (fun K hK => ?_) (AllReadyH.nil))
          refine step_append_vals (by decide) Try.underlying46 info_i64 rfl (by omega) rfl (.tmp 41) (.tmp 47) rfl u7 L.length (flatG (ni .i64) L) (by simp [Act.eval]) (own_zero HOA.out) (some ⟨B4, 0, none⟩) 1 1 [.int .i64 x] (by simp [Act.eval]) rfl (fun h => by cases h) (fun ad had i u hu => by cases had; obtain ⟨rfl, rfl⟩ : i = 0 ∧ u = .int .i64 x := (by cases i with | zero => exact ⟨rfl, by simpa using hu.symm⟩ | succ i => simp at hu); exact block_cell HBX.out rfl) (ni_one .i64 x) (by have := HLL.out; omega) ?_
          intro p8 c8 w8 g1' g2' g3'
          have hSN : Hid (SR X G b (off + j) #[.int .u8 k0, .int .u8 k1, .int .u8 k2, .int .i64 lo, .int .i64 init, .int .i64 hi, .slice (some ⟨b, off, none⟩) n m, .slice q n2 m2] #[.int .i64 g1, .int .i64 g2, .int .i64 g3, .int .i64 g4, .int .i64 g5, .int .i64 g6] x w8) := Lib.hid (hHeld.out.chg g2' (fun e => absurd (HOA.out.lt X e).1 (by have := HXY.out.1; have := HYL.out; omega)) (fun e => HOW.out G e G HLT.out rfl) (fun e => absurd (HOA.out.lt b e).1 (by have := HBL.out; have := HYL.out; omega)))
          have hyd := (g2'.block Y (block_lt HYD.out) (fun e => absurd (HOA.out.lt Y e).1 (by have := HYL.out; omega))).trans HYD.out
          have HYE := Lib.hid hyd
          have HCE := Lib.hid g2'
          have HR8 := Lib.hid g1'
          have HO8 : Hid (∀ k, (Value.slice p8 (L.length + 1) c8).ownBlock = some k → W1.heap.size ≤ k) := Lib.hid fun k hk => by
            rcases g3' k hk with h | h
            · exact (HOA.out.lt k h).1
            · have := HCA.out.size
              have := HF2.out.chg.size
              omega
          clear g1' g2' g3' hyd HBX HYD
          refine hK.out _ _ hSN (fun hHeld2 => ?_)
          try simp only [Act.put, List.setIfInBounds_toArray, List.set_cons_zero, List.set_cons_succ]
          clear hSN hK K hHeld
          have hHeld := hHeld2
          clear hHeld2
          refine wpAnyH_ready (rs := [9]) (by kernel_rfl) (by simp) (AllReadyH.cons rfl (fun K hK => ?_) (AllReadyH.nil))
          obtain ⟨r0, r1, r2, r3, r4, r5⟩ := fcells HYE.out
          obtain ⟨h0, h1, h2, h3, h4, h5⟩ := ffree HYE.out
          have HYF := Lib.hid (fstored (a' := .int .i64 g1) (b' := .int .i64 g2) (c' := .int .i64 g3) (d' := .int .i64 g4) (e' := .int .i64 g5) (f' := .int .i64 g6) HYE.out)
          have hch := fput_chg w8 Y (.int .i64 g1) (.int .i64 g2) (.int .i64 g3) (.int .i64 g4) (.int .i64 g5) (.int .i64 g6)
          have hSN : Hid (SR X G b (off + j) #[.int .u8 k0, .int .u8 k1, .int .u8 k2, .int .i64 lo, .int .i64 init, .int .i64 hi, .slice (some ⟨b, off, none⟩) n m, .slice q n2 m2] #[.int .i64 g1, .int .i64 g2, .int .i64 g3, .int .i64 g4, .int .i64 g5, .int .i64 g6] x ((((((w8.setCell ⟨Y, 0, none⟩ (.int .i64 g1)).setCell ⟨Y, 1, none⟩ (.int .i64 g2)).setCell ⟨Y, 2, none⟩ (.int .i64 g3)).setCell ⟨Y, 3, none⟩ (.int .i64 g4)).setCell ⟨Y, 4, none⟩ (.int .i64 g5)).setCell ⟨Y, 5, none⟩ (.int .i64 g6))) := Lib.hid (hHeld.out.chg hch (fun e => absurd e (Nat.ne_of_lt HXY.out.1)) (fun e => (HNE.out G HLT.out).2.1 e.symm) (fun e => absurd HBL.out (by rw [e]; exact Nat.lt_irrefl _)))
          have HCF := Lib.hid hch
          clear hch
          go_simp
          go_wp2_with fail
          refine hK.out _ _ hSN (fun hHeld2 => ?_)
          try simp only [Act.put, List.setIfInBounds_toArray, List.set_cons_zero, List.set_cons_succ]
          clear hSN hK K hHeld
          have hHeld := hHeld2
          clear hHeld2 r0 r1 r2 r3 r4 r5 h0 h1 h2 h3 h4 h5 HYE
          refine wpAnyH_take (i := 10) (oi := ⟨some 7, _, _, _, _, _⟩) (v := .slice p8 (L.length + 1) c8) rfl (by kernel_rfl) (by kernel_rfl) (by kernel_rfl) (fun _ _ _ h => h) (Or.inl ⟨by rfl, fun w' hw' => ?_⟩) (by assumption) ?_
          · clear hHeld
            go_simp
          simp only [Act.put, List.setIfInBounds_toArray, List.set_cons_zero, List.set_cons_succ]
          refine wpAnyH_done (by kernel_rfl) ?_ _
          clear hHeld
          generalize ((((((w8.setCell ⟨Y, 0, none⟩ (.int .i64 g1)).setCell ⟨Y, 1, none⟩ (.int .i64 g2)).setCell ⟨Y, 2, none⟩ (.int .i64 g3)).setCell ⟨Y, 3, none⟩ (.int .i64 g4)).setCell ⟨Y, 4, none⟩ (.int .i64 g5)).setCell ⟨Y, 5, none⟩ (.int .i64 g6)) = w9 at *
          go_wp2_with fail
          go_roundw
          case rel =>
            refine ⟨j + 1, by omega, by omega, by go_num, Lib.hid ?_⟩
            rw [HSE.out, HZ0.out]
            refine ⟨HYF.out, ?_, ?_⟩
            · have hr := row_keep HR8.out HCF.out (fun k hk e => by have := HO8.out k hk; have := HYL.out; omega)
              have hb := own_base hr HO8.out
              have e1 : flatG (ni .i64) (L ++ [x]) = flatG (ni .i64) L ++ [.int .i64 x] := by rw [flatG_append, flatG_one]
              have e2 : (L ++ [x]).length = L.length + 1 := by simp
              show w9.ownsRow W1.heap.size 2 1 (.slice p8 (L.length + 1) c8) (L ++ [x]).length (flatG (ni .i64) (L ++ [x]))
              rw [e1, e2]
              exact hb
            · refine ((HF2.out.chg.trans HCA.out (fun k hk e => absurd hk (by have := HLT.out; have := HF2.out.chg.size; omega))).trans HCE.out (fun k hk e => absurd hk (by have := (HOA.out.lt k e).1; omega))).trans HCF.out (fun k hk e => e)
          case measure =>
            simp [Go.RowKit.intOf]
            omega
        · have k1 : (z == 0) = false := by simpa using hz0
          have hz := HZ.out.2 hz0
          have HZ0 := Lib.hid hz0
          clear hz0
          go_wp2_with fail
          go_roundw
          case rel =>
            refine ⟨j + 1, by omega, by omega, by go_num, Lib.hid ?_⟩
            rw [HSE.out, hz]
            exact ⟨HS6.out.g, own_chg HF2.out.own HC6.out (fun k hk e => HOW.out k hk G HLT.out e), HF2.out.chg.trans HC6.out (fun k hk e => absurd hk (by have := HLT.out; have := HF2.out.chg.size; omega))⟩
          case measure =>
            simp [Go.RowKit.intOf]
            omega
    · have hS : playS ⟨a1, a2, a3, a4, a5, a6⟩ (A.take j) = playS ⟨a1, a2, a3, a4, a5, a6⟩ (A.take 40) := by
        by_cases hn : j < n
        · have h40 : j = 40 := by omega
          rw [h40]
        · rw [List.take_of_length_le (by have := HAL.out; omega), List.take_of_length_le (by have := HAL.out; omega)]
      rw [hS, HS40.out] at HF
      have HSS := Lib.hid hS
      clear hS
      obtain ⟨q0, q1, q2, q3, q4, q5⟩ := fcells HF.out.y
      obtain ⟨r0, r1, r2, r3, r4, r5⟩ := fcells HRw.out
      obtain ⟨h0, h2, h3, h4, h5, h6⟩ := ffree HRw.out
      have hch := fput_chg wr R (.int .i64 z1) (.int .i64 z2) (.int .i64 z3) (.int .i64 z4) (.int .i64 z5) (.int .i64 z6)
      have HFS := Lib.hid (fstored (a' := .int .i64 z1) (b' := .int .i64 z2) (c' := .int .i64 z3) (d' := .int .i64 z4) (e' := .int .i64 z5) (f' := .int .i64 z6) HRw.out)
      have HOE := Lib.hid (own_base (N := W.heap.size) (own_zero (own_chg HF.out.own hch (fun k hk e => absurd (HF.out.own.lt k hk).1 (by have := HXY.out.2; have := HYL.out; omega)))) (fun k hk => Nat.le_trans HB1.out.size (HF.out.own.lt k hk).1))
      have HBE := Lib.hid (Chg.below (Chg.below HB1.out HB1.out.size HF.out.chg (fun k hk => by have := HXY.out.1; have := HHX.out; omega)) (Nat.le_trans HB1.out.size HF.out.chg.size) hch (fun k hk => by have := HXR.out; have := HHX.out; omega))
      clear hch
      by_cases hn : j < n
      · have t1 : (j : Int) < n := by omega
        have t2 : ¬ (j : Int) < 40 := by omega
        go_wp2_with fail
        refine bodyPost_ret (v := .tuple #[.agg #[.int .i64 z1, .int .i64 z2, .int .i64 z3, .int .i64 z4, .int .i64 z5, .int .i64 z6], u7, .bool (e0 == 0)]) ?_ rfl ⟨u7, rfl, HOE.out, HBE.out⟩
        exact results_fff rfl _ _ R _ rfl _ _ rfl rfl rfl HFS.out
      · have t1 : ¬ (j : Int) < n := by omega
        go_wp2_with fail
        refine bodyPost_ret (v := .tuple #[.agg #[.int .i64 z1, .int .i64 z2, .int .i64 z3, .int .i64 z4, .int .i64 z5, .int .i64 z6], u7, .bool (e0 == 0)]) ?_ rfl ⟨u7, rfl, HOE.out, HBE.out⟩
        exact results_fff rfl _ _ R _ rfl _ _ rfl rfl rfl HFS.out
end Go.Proofs.Ytgjfgabagfhnoaa
