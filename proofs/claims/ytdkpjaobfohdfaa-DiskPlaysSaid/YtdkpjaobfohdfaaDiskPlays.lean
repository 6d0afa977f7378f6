/-
  DiskPlays answers true of any acts and any bound of the tape, and writes nothing that was there. No condition.
PLAIN4
HEARTS 8000000
-/
import Derived.Test.YtdkpjaobfohdfaaRows
import Derived.Test.YtdkpjaobfohdfaaPartS
import Derived.Laws.Tables
import Derived.WalkKit
import Derived.ProofKit
import Derived.OpenShut
import Derived.ShutString
import Derived.ChangeOld
import Derived.Below
namespace Go.Proofs.Ytdkpjaobfohdfaa.diskPlays
open Go.ChangeShapes Go.WideShapes Go.ChangeAt Go.RowKit
open Go.ChangeMaps (open_string shut_string)
set_option linter.unusedVariables false

theorem own : ownKnob Try.prog.godebug = none := by kernel_rfl
theorem laidOut : laidOutB Try.prog = true := by kernel_rfl
set_option linter.unusedSimpArgs false

set_option maxHeartbeats 8000000 in
set_option maxRecDepth 100000 in
theorem walk (a0 : Int) (a1 : Option Addr) (len1 cap1 : Nat) (L1 : List Ac) (w : World) (w0 : (Lit.int .u16 a0).wf = true) (w1 : AL w a1 len1 cap1 L1 ∧ ∀ y ∈ L1, AnyA y) :
    Calls Try.prog 3 #[.int .u16 a0, .slice a1 len1 cap1] w fun e w' => e = .returned (.bool true) ∧ Below w.heap.size w w' := by
  obtain ⟨hA, _⟩ := w1
  have hb16 := bounds_u16 w0
  obtain ⟨mo, rfl⟩ : ∃ m : Nat, a0 = (m : Int) := ⟨a0.toNat, by omega⟩
  have hf := few_any a1 len1 cap1 L1 w hA
  have HA := Lib.hid hA
  obtain ⟨Mo, hMo, hM9⟩ : ∃ M : Nat, (mo : Int) % 2000 = (M : Int) ∧ M ≤ 1999 := ⟨mo % 2000, by omega, by omega⟩
  have hMt : (mo : Int).tmod 2000 = (Mo : Int) := by rw [Int.tmod_eq_emod_of_nonneg (by omega)]; exact hMo
  clear hA
  go_enter Try.func3, Try.ntmps3
  go_wp2_with fail
  refine hf.mono ?_
  rintro e w' ⟨⟨tf, rfl, hlen⟩, rfl⟩
  cases tf with
  | false =>
    go_wp2_with fail
    refine (disk_works _).mono ?_
    rintro e W3 ⟨rfl, hb3⟩
    have HB3 := Lib.hid hb3
    clear hb3
    go_wp2_with fail
    go_ret
    exact ⟨rfl, HB3.out⟩
  | true =>
    obtain ⟨hl40, hm3⟩ := hlen rfl
    have HM := Lib.hid hm3
    have hnew := disk_new 4 32 64 (Mo : Int) w'
    have hk0 : kp (Mo : Int) 1048576 = Mo := by unfold kp; omega
    have HD0 : Hid ((DS.new 4 32 64 (Mo : Int)).tot = 0 ∧ (DS.new 4 32 64 (Mo : Int)).L.length = 0 ∧ (DS.new 4 32 64 (Mo : Int)).M ≤ 1999) := Lib.hid ⟨by unfold DS.new DS.tot TS.len wts; simp, rfl, by show kp (Mo : Int) 1048576 ≤ 1999; omega⟩
    clear hf hlen hm3 hk0
    go_wp2_with fail
    refine hnew.mono ?_
    rintro e w1 ⟨B, rfl, hbo, _, hb1⟩
    have HBO := Lib.hid hbo
    have HB1 := Lib.hid hb1
    have hrn := refdnew_any 4 32 64 Mo (by omega) w1
    clear hnew hbo hb1
    go_wp2_with fail
    refine hrn.mono ?_
    rintro e w2 ⟨p, c, tp, tc, lp, lc, rfl, hrd, hb2⟩
    obtain ⟨W3, hW3⟩ : ∃ W3, W3 = w2.alloc (.cells (rdc p (DS.new 4 32 64 (Mo : Int)).V.length c (DS.new 4 32 64 (Mo : Int)).s tp (DS.new 4 32 64 (Mo : Int)).t.B.length tc ((DS.new 4 32 64 (Mo : Int)).t.f * (DS.new 4 32 64 (Mo : Int)).z) (DS.new 4 32 64 (Mo : Int)).z lp (DS.new 4 32 64 (Mo : Int)).L.length lc (DS.new 4 32 64 (Mo : Int)).M) 36) := ⟨_, rfl⟩
    obtain ⟨col0, hdp0⟩ := Dp.start HBO.out HB1.out hrd hb2 hW3 HD0.out.1 HD0.out.2.1 HD0.out.2.2
    have HDP0 := Lib.hid hdp0
    clear hdp0 hrd hb2 hrn
    generalize (DS.new 4 32 64 (Mo : Int)) = D0 at *
    generalize D0.V.length = nV0 at *
    generalize D0.t.B.length = n10 at *
    generalize D0.t.f * D0.z = F10 at *
    generalize D0.L.length = ln0 at *
    generalize D0.s = s0 at *
    generalize D0.z = z0 at *
    generalize D0.M = M0 at *
    have HW3 := Lib.hid hW3
    clear hW3
    go_wp2_with fail
    rw [← HW3.out]
    clear HW3
    generalize w2.heap.size = X at *
    go_loopw [7] (fun i wr => ∃ (j : Nat) (d : DS) (col : Nat → Nat) (p tp lp : Option Addr) (c tc lc : Nat), j ≤ len1 ∧ i = .int .i64 (j : Nat) ∧ Hid (Dp w' wr col B X d p c tp tc lp lc j)) (fun i _ => len1 - (intOf i).toNat)
    case atStart => exact ⟨0, D0, col0, p, tp, lp, c, tc, lc, Nat.zero_le _, rfl, HDP0⟩
    case round =>
      clear HDP0 HBO HB1 HD0
      obtain ⟨j, d, col, p, tp, lp, c, tc, lc, hj, rfl, HP⟩ := hrel
      by_cases hlt : j < len1
      · have hlt' : (j : Int) < len1 := by omega
        obtain ⟨ab, ao, rfl, hab, ⟨d0', d1', d2', d3', d4'⟩, hbl, hk⟩ := (HA.out.later HP.out.hd.below).at hlt
        have hbl0 : BL w' (L1.getD j ac0).q (L1.getD j ac0).m (L1.getD j ac0).cq (L1.getD j ac0).b := by
          obtain ⟨_, _, _, _, _, h, _⟩ := HA.out.at hlt
          exact h
        have hm := HM.out j hlt
        have HQB : Hid (0 < (L1.getD j ac0).m → ∀ a, (L1.getD j ac0).q = some a → a.block < w'.heap.size ∧ col a.block = 0) := Lib.hid fun h0 a ha => by
          obtain ⟨b, off, he, hlt2, _⟩ := BL.at hbl0 h0
          rw [he] at ha
          cases ha
          exact ⟨hlt2, HP.out.hd.zero b hlt2⟩
        have htot : d.tot ≤ 12000 := Nat.le_trans HP.out.tot (by have : j * 300 ≤ 40 * 300 := Nat.mul_le_mul_right _ (by omega); omega)
        have hLn : d.L.length ≤ 40 := Nat.le_trans HP.out.len (by omega)
        have hMx : d.M ≤ 1999 := HP.out.m
        have HTN : Hid ((actD d (L1.getD j ac0).k (L1.getD j ac0).n (L1.getD j ac0).tear (L1.getD j ac0).x (L1.getD j ac0).b).tot ≤ (j + 1) * 300) := Lib.hid (by
          have h1 := act_tot d (L1.getD j ac0).k (L1.getD j ac0).n (L1.getD j ac0).tear (L1.getD j ac0).x (L1.getD j ac0).b (by have := HP.out.rd.z; omega)
          have h2 := HP.out.tot
          have h3 := hbl0.len
          rw [Nat.add_mul]
          omega)
        have HLN : Hid ((actD d (L1.getD j ac0).k (L1.getD j ac0).n (L1.getD j ac0).tear (L1.getD j ac0).x (L1.getD j ac0).b).L.length ≤ j + 1) := Lib.hid (Nat.le_trans (act_L ..) (by have := HP.out.len; omega))
        have HMN : Hid ((actD d (L1.getD j ac0).k (L1.getD j ac0).n (L1.getD j ac0).tear (L1.getD j ac0).x (L1.getD j ac0).b).M = d.M) := Lib.hid (act_like d (L1.getD j ac0).k (L1.getD j ac0).n (L1.getD j ac0).tear (L1.getD j ac0).x (L1.getD j ac0).b).1
        have HTOLD : Hid (∀ (w9 : World) (Q : Nat → Prop), Below wr.heap.size wr w9 → (∀ k, w9.heap.size ≤ k → Q k) → (∀ k, col k = 0 ∧ k ≠ X → k < wr.heap.size → Q k) → Calls Try.prog 8 #[.agg (rdc p d.V.length c d.s tp d.t.B.length tc (d.t.f * d.z) d.z lp d.L.length lc d.M), .agg #[.int .u8 ((L1.getD j ac0).k : Nat), .int .i64 (L1.getD j ac0).n, .int .i64 (L1.getD j ac0).tear, .int .i64 (L1.getD j ac0).x, .slice (L1.getD j ac0).q (L1.getD j ac0).m (L1.getD j ac0).cq]] w9 (RdVE w9 Q (actD d (L1.getD j ac0).k (L1.getD j ac0).n (L1.getD j ac0).tear (L1.getD j ac0).x (L1.getD j ac0).b) (actE d (L1.getD j ac0).k (L1.getD j ac0).n (L1.getD j ac0).b))) := Lib.hid fun w9 Q hb hQ hQ2 =>
          (told_any d w9 Q hQ ((HP.out.rd.mono (R := Q) fun k h1 h2 => hQ2 k h1 h2).later hb) (by omega) (by omega) (by omega) _ hk _ _ _ _ _ _ _ (SlG.later hbl hb) (fun h0 a ha => by
            have h1 := HQB.out h0 a ha
            have h2 := HP.out.xw
            have h3 := HP.out.hd.below.size
            exact hQ2 _ ⟨h1.2, by omega⟩ (by omega))).mono fun e w5 h => RdGivesE.var h
        have HDO : Hid (∀ w9, Below wr.heap.size wr w9 → Calls Try.prog 9 #[.pointer (some ⟨B, 0, none⟩), .agg #[.int .u8 ((L1.getD j ac0).k : Nat), .int .i64 (L1.getD j ac0).n, .int .i64 (L1.getD j ac0).tear, .int .i64 (L1.getD j ac0).x, .slice (L1.getD j ac0).q (L1.getD j ac0).m (L1.getD j ac0).cq]] w9 (DidD w9 col 1 B d (L1.getD j ac0).k (L1.getD j ac0).n (L1.getD j ac0).tear (L1.getD j ac0).x (L1.getD j ac0).b)) := Lib.hid fun w9 hb => do_any (HP.out.dk.later hb) (by omega) (by omega) _ hk _ _ _ _ _ _ _ (SlG.later hbl hb) (fun h0 a ha => not_own (HQB.out h0 a ha).2)
        have HCX : Hid (∀ w9, Below wr.heap.size wr w9 → w9.heap[X]? = some (.cells (rdc p d.V.length c d.s tp d.t.B.length tc (d.t.f * d.z) d.z lp d.L.length lc d.M) 36 (0, 0))) := Lib.hid fun w9 hb => block_later HP.out.box hb
        have HCA : Hid (∀ w9, Below wr.heap.size wr w9 → w9.cell? ⟨ab, ao + j * 5, none⟩ = some (.int .u8 ((L1.getD j ac0).k : Nat)) ∧ w9.cell? ⟨ab, ao + j * 5 + 1, none⟩ = some (.int .i64 (L1.getD j ac0).n) ∧ w9.cell? ⟨ab, ao + j * 5 + 2, none⟩ = some (.int .i64 (L1.getD j ac0).tear) ∧ w9.cell? ⟨ab, ao + j * 5 + 3, none⟩ = some (.int .i64 (L1.getD j ac0).x) ∧ w9.cell? ⟨ab, ao + j * 5 + 4, none⟩ = some (.slice (L1.getD j ac0).q (L1.getD j ac0).m (L1.getD j ac0).cq)) := Lib.hid fun w9 hb => ⟨(hb.cell hab).trans d0', (hb.cell hab).trans d1', (hb.cell hab).trans d2', (hb.cell hab).trans d3', (hb.cell hab).trans d4'⟩
        have HSTEP := Lib.hid (fun (W9 w10 w11 w12 : World) (Y : Nat) (D : DS) (p2 tp2 lp2 : Option Addr) (c2 tc2 lc2 : Nat) => Dp.step (W9 := W9) (w10 := w10) (w11 := w11) (w12 := w12) (Y := Y) (D := D) (p2 := p2) (tp2 := tp2) (lp2 := lp2) (c2 := c2) (tc2 := tc2) (lc2 := lc2) HP.out)
        have HTOT := Lib.hid htot
        clear hbl hbl0 hm hk HQB d0' d1' d2' d3' d4' htot hLn hMx
        unfold DidD at HDO
        generalize actD d (L1.getD j ac0).k (L1.getD j ac0).n (L1.getD j ac0).tear (L1.getD j ac0).x (L1.getD j ac0).b = D at *
        generalize actE d (L1.getD j ac0).k (L1.getD j ac0).n (L1.getD j ac0).b = e0 at *
        generalize (L1.getD j ac0).k = yk at *
        generalize (L1.getD j ac0).n = yn at *
        generalize (L1.getD j ac0).tear = yt at *
        generalize (L1.getD j ac0).x = yx at *
        generalize (L1.getD j ac0).q = yq at *
        generalize (L1.getD j ac0).m = ym at *
        generalize (L1.getD j ac0).cq = yc at *
        generalize d.V.length = n at *
        generalize d.t.B.length = n1 at *
        generalize d.t.f * d.z = F1 at *
        generalize d.L.length = ln at *
        generalize d.s = s at *
        generalize d.z = z at *
        generalize hMM : d.M = M at *
        have hbd : Below wr.heap.size wr wr.drew := (Below.refl _ _).drew
        have HXL : Hid (X < wr.heap.size) := Lib.hid (block_lt (HCX.out wr (Below.refl _ _)))
        have HFLAT : Hid (∀ k, wr.heap.size ≤ k → col k = 0) := Lib.hid HP.out.flat
        clear hMM
        go_wp2_with fail
        refine wp_region_held_drew (S := fun w' => Hid (Below wr.heap.size wr w')) (by kernel_rfl) (Lib.hid hbd) (fun hHeld => ?_)
        clear hbd
        refine wpAnyH_take (i := 0) (oi := ⟨some 29, _, _, _, _, _⟩) (v := .agg #[.slice p n c, .int .i64 (s : Nat), .slice tp n1 tc, .int .i64 (F1 : Nat), .int .i64 (z : Nat), .slice lp ln lc, .int .i64 (M : Nat)]) rfl (by kernel_rfl) (by kernel_rfl) (by kernel_rfl) (fun _ _ _ h => h) (Or.inl ⟨by rfl, fun w' hw' => ?_⟩) (by assumption) ?_
        · have gX := HCX.out w' hw'.out
          have b0 := block_cell (j := 0) gX (v := .slice p n c) rfl
          have b1 := block_cell (j := 1) gX (v := .int .i64 (s : Nat)) rfl
          have b2 := block_cell (j := 2) gX (v := .slice tp n1 tc) rfl
          have b3 := block_cell (j := 3) gX (v := .int .i64 (F1 : Nat)) rfl
          have b4 := block_cell (j := 4) gX (v := .int .i64 (z : Nat)) rfl
          have b5 := block_cell (j := 5) gX (v := .slice lp ln lc) rfl
          have b6 := block_cell (j := 6) gX (v := .int .i64 (M : Nat)) rfl
          clear gX
          clear hHeld
          go_simp
        simp only [Act.put, List.setIfInBounds_toArray, List.set_cons_zero, List.set_cons_succ]
        refine wpAnyH_take (i := 1) (oi := ⟨some 30, _, _, _, _, _⟩) (v := .slice (some ⟨ab, ao, none⟩) len1 cap1) rfl (by kernel_rfl) (by kernel_rfl) (by kernel_rfl) (fun _ _ _ h => h) (Or.inl ⟨by rfl, fun w' hw' => ?_⟩) (by assumption) ?_
        · clear hHeld
          go_simp
        simp only [Act.put, List.setIfInBounds_toArray, List.set_cons_zero, List.set_cons_succ]
        refine wpAnyH_take (i := 2) (oi := ⟨some 31, _, _, _, _, _⟩) (v := .int .i64 (j : Nat)) rfl (by kernel_rfl) (by kernel_rfl) (by kernel_rfl) (fun _ _ _ h => h) (Or.inl ⟨by rfl, fun w' hw' => ?_⟩) (by assumption) ?_
        · clear hHeld
          go_simp
        simp only [Act.put, List.setIfInBounds_toArray, List.set_cons_zero, List.set_cons_succ]
        refine wpAnyH_take (i := 3) (oi := ⟨some 32, _, _, _, _, _⟩) (v := .pointer (some ⟨ab, ao + j * 5, none⟩)) rfl (by kernel_rfl) (by kernel_rfl) (by kernel_rfl) (fun _ _ _ h => h) (Or.inl ⟨by rfl, fun w' hw' => ?_⟩) (by assumption) ?_
        · clear hHeld
          go_simp
        simp only [Act.put, List.setIfInBounds_toArray, List.set_cons_zero, List.set_cons_succ]
        refine wpAnyH_take (i := 4) (oi := ⟨some 33, _, _, _, _, _⟩) (v := .agg #[.int .u8 (yk : Nat), .int .i64 yn, .int .i64 yt, .int .i64 yx, .slice yq ym yc]) rfl (by kernel_rfl) (by kernel_rfl) (by kernel_rfl) (fun _ _ _ h => h) (Or.inl ⟨by rfl, fun w' hw' => ?_⟩) (by assumption) ?_
        · obtain ⟨g0, g1, g2, g3, g4⟩ := HCA.out w' hw'.out
          clear hHeld
          go_simp
        simp only [Act.put, List.setIfInBounds_toArray, List.set_cons_zero, List.set_cons_succ]
        refine wpAnyH_ready (rs := [5, 9]) (by kernel_rfl) (by simp) (AllReadyH.cons rfl (fun K hK => ?_) (AllReadyH.cons rfl (fun K hK => ?_) AllReadyH.nil))
        · go_simp
          go_wp2_with fail
          refine (HTOLD.out wr.drew (fun k => col k = 0 ∧ k ≠ X) hHeld.out (fun k hk => ⟨HFLAT.out k hk, by have := HXL.out; have hk' : wr.heap.size ≤ k := hk; omega⟩) (fun k h1 _ => h1)).mono ?_
          rintro e w5 ⟨p2, c2, tp2, tc2, lp2, lc2, nV2, s2, n2, F2, zz2, l2, M2, rfl, H5⟩
          go_wp2_with fail
          have hb5 : Below wr.heap.size wr w5 := hHeld.out.trans (H5.out.2.1)
          refine hK.out _ _ (Lib.hid hb5) (fun hHeld2 => ?_)
          have HB5 := Lib.hid hb5
          clear hb5
          clear hK K hHeld
          have hHeld := hHeld2
          clear hHeld2
          try simp only [Act.put, List.setIfInBounds_toArray, List.set_cons_zero, List.set_cons_succ]
          refine wpAnyH_take (i := 6) (oi := ⟨some 28, _, _, _, _, _⟩) (v := .tuple #[.agg #[.slice p2 nV2 c2, .int .i64 (s2 : Nat), .slice tp2 n2 tc2, .int .i64 (F2 : Nat), .int .i64 (zz2 : Nat), .slice lp2 l2 lc2, .int .i64 (M2 : Nat)], .int .i64 e0]) rfl (by kernel_rfl) (by kernel_rfl) (by kernel_rfl) (fun _ _ _ h => h) (Or.inl ⟨by rfl, fun w' hw' => ?_⟩) (by assumption) ?_
          · clear hHeld
            go_simp
          simp only [Act.put, List.setIfInBounds_toArray, List.set_cons_zero, List.set_cons_succ]
          refine wpAnyH_take (i := 7) (oi := ⟨some 35, _, _, _, _, _⟩) (v := .agg #[.slice p2 nV2 c2, .int .i64 (s2 : Nat), .slice tp2 n2 tc2, .int .i64 (F2 : Nat), .int .i64 (zz2 : Nat), .slice lp2 l2 lc2, .int .i64 (M2 : Nat)]) rfl (by kernel_rfl) (by kernel_rfl) (by kernel_rfl) (fun _ _ _ h => h) (Or.inl ⟨by rfl, fun w' hw' => ?_⟩) (by assumption) ?_
          · clear hHeld
            go_simp
          simp only [Act.put, List.setIfInBounds_toArray, List.set_cons_zero, List.set_cons_succ]
          refine wpAnyH_take (i := 8) (oi := ⟨some 36, _, _, _, _, _⟩) (v := .int .i64 e0) rfl (by kernel_rfl) (by kernel_rfl) (by kernel_rfl) (fun _ _ _ h => h) (Or.inl ⟨by rfl, fun w' hw' => ?_⟩) (by assumption) ?_
          · clear hHeld
            go_simp
          simp only [Act.put, List.setIfInBounds_toArray, List.set_cons_zero, List.set_cons_succ]
          refine wpAnyH_ready (rs := [9]) (by kernel_rfl) (by simp) (AllReadyH.cons rfl (fun K hK => ?_) AllReadyH.nil)
          go_simp
          have hb6 : Below w5.heap.size w5 (w5.alloc (.cells #[.slice none 0 0, .int .i64 0, .slice none 0 0, .int .i64 0, .int .i64 0, .slice none 0 0, .int .i64 0] 36)) := (Below.refl _ _).alloc (Nat.le_refl _) _
          have HY0 := Lib.hid (alloc_block w5 (.cells #[.slice none 0 0, .int .i64 0, .slice none 0 0, .int .i64 0, .int .i64 0, .slice none 0 0, .int .i64 0] 36))
          have HB6 := Lib.hid (HB5.out.trans (hb6.mono HB5.out.size))
          have HB56 := Lib.hid hb6
          clear hb6
          refine hK.out _ _ (Lib.hid HB6.out) (fun hHeld2 => ?_)
          clear hK K hHeld
          have hHeld := hHeld2
          clear hHeld2
          try simp only [Act.put, List.setIfInBounds_toArray, List.set_cons_zero, List.set_cons_succ]
          refine wpAnyH_ready (rs := [10]) (by kernel_rfl) (by simp) (AllReadyH.cons rfl (fun K hK => ?_) AllReadyH.nil)
          rw [if_pos (by rfl)]
          refine wp_store_row 36 _ _ rfl w5.heap.size #[.slice p2 nV2 c2, .int .i64 (s2 : Nat), .slice tp2 n2 tc2, .int .i64 (F2 : Nat), .int .i64 (zz2 : Nat), .slice lp2 l2 lc2, .int .i64 (M2 : Nat)] rfl rfl 36 _ HY0.out (by kernel_rfl) rfl (by kernel_rfl) ?_
          have HY1 : Hid (((w5.alloc (.cells #[.slice none 0 0, .int .i64 0, .slice none 0 0, .int .i64 0, .int .i64 0, .slice none 0 0, .int .i64 0] 36)).setRow w5.heap.size #[.slice p2 nV2 c2, .int .i64 (s2 : Nat), .slice tp2 n2 tc2, .int .i64 (F2 : Nat), .int .i64 (zz2 : Nat), .slice lp2 l2 lc2, .int .i64 (M2 : Nat)]).heap[w5.heap.size]? = some (.cells #[.slice p2 nV2 c2, .int .i64 (s2 : Nat), .slice tp2 n2 tc2, .int .i64 (F2 : Nat), .int .i64 (zz2 : Nat), .slice lp2 l2 lc2, .int .i64 (M2 : Nat)] 36 (0, 0))) := Lib.hid (setRow_heap _ _ _ _ _ _ HY0.out)
          have HEQ : Hid (D.V.length = nV2 ∧ D.s = s2 ∧ D.t.B.length = n2 ∧ D.t.f * D.z = F2 ∧ D.z = zz2 ∧ D.L.length = l2 ∧ D.M = M2) := Lib.hid H5.out.2.2
          have HDQ : Hid (Dq w' wr _ col X w5.heap.size D p2 c2 tp2 tc2 lp2 lc2) := Lib.hid ⟨(Chg.setRow _).below HB6.out HB6.out.size (fun k hk => by have := HB5.out.size; omega), HB5.out.size, ((H5.out.1.mono (R := fun k => (col k = 0 ∧ k ≠ X) ∧ k ≠ w5.heap.size) fun k h1 h2 => ⟨h1, by omega⟩).later HB56.out).keep (Chg.setRow _) (fun k hk hs => hk.2 hs), by obtain ⟨e1, e2, e3, e4, e5, e6, e7⟩ := HEQ.out; rw [e1, e2, e3, e4, e5, e6, e7]; exact HY1.out⟩
          clear HB5 HB6 HB56 H5
          refine hK.out _ _ (Lib.hid HDQ.out.below) (fun hHeld2 => ?_)
          clear hK K hHeld
          have hHeld := hHeld2
          clear hHeld2
          try simp only [Act.put, List.setIfInBounds_toArray, List.set_cons_zero, List.set_cons_succ]
          refine wpAnyH_take (i := 11) (oi := ⟨some 9, _, _, _, _, _⟩) (v := .int .i64 e0) rfl (by kernel_rfl) (by kernel_rfl) (by kernel_rfl) (fun _ _ _ h => h) (Or.inl ⟨by rfl, fun w' hw' => ?_⟩) (by assumption) ?_
          · clear hHeld
            go_simp
          simp only [Act.put, List.setIfInBounds_toArray, List.set_cons_zero, List.set_cons_succ]
          refine wpAnyH_done (by kernel_rfl) ?_ _
          clear hHeld
          obtain ⟨g0, g1, g2, g3, g4⟩ := HCA.out _ HDQ.out.below
          have hdo := HDO.out _ HDQ.out.below
          clear HTOLD HDO HY0 HY1
          generalize hW9 : World.setRow _ _ _ = W9 at HDQ hdo g0 g1 g2 g3 g4 ⊢
          clear hW9
          go_wp2_with fail
          refine hdo.mono ?_
          rintro e w10 ⟨rfl, ht⟩
          obtain ⟨⟨col5, hdk⟩, hrd10, hY10, hX10, _⟩ := HSTEP.out W9 w10 w10 w10 _ D p2 tp2 lp2 c2 tc2 lc2 HDQ.out ht
          have HST := Lib.hid (fun w11 w12 => (HSTEP.out W9 w10 w11 w12 _ D p2 tp2 lp2 c2 tc2 lc2 HDQ.out ht).2.2.2.2)
          have hsame := dsame_any hdk hrd10 (by have := HTN.out; have : (j + 1) * 300 ≤ 41 * 300 := Nat.mul_le_mul_right _ (by omega); omega)
          obtain ⟨e1, e2, e3, e4, e5, e6, e7⟩ := HEQ.out
          rw [e1, e2, e3, e4, e5, e6, e7] at hsame hY10 HST
          clear e1 e2 e3 e4 e5 e6 e7 hdk hrd10 ht hdo HSTEP g0 g1 g2 g3 g4
          have HY10 := Lib.hid hY10
          have HX10 := Lib.hid hX10
          clear hX10
          have b0 := block_cell (j := 0) hY10 (v := .slice p2 nV2 c2) rfl
          have b1 := block_cell (j := 1) hY10 (v := .int .i64 (s2 : Nat)) rfl
          have b2 := block_cell (j := 2) hY10 (v := .slice tp2 n2 tc2) rfl
          have b3 := block_cell (j := 3) hY10 (v := .int .i64 (F2 : Nat)) rfl
          have b4 := block_cell (j := 4) hY10 (v := .int .i64 (zz2 : Nat)) rfl
          have b5 := block_cell (j := 5) hY10 (v := .slice lp2 l2 lc2) rfl
          have b6 := block_cell (j := 6) hY10 (v := .int .i64 (M2 : Nat)) rfl
          clear hY10
          have qe : (e0 != e0) = false := by simp
          go_wp2_with fail
          refine hsame.mono ?_
          rintro e w11 ⟨rfl, hb11⟩
          clear b0 b1 b2 b3 b4 b5 b6
          have gY := block_later HY10.out hb11
          have gX := block_later HX10.out hb11
          have HB11 := Lib.hid hb11
          clear hb11 hsame
          have b0 := block_cell (j := 0) gY (v := .slice p2 nV2 c2) rfl
          have b1 := block_cell (j := 1) gY (v := .int .i64 (s2 : Nat)) rfl
          have b2 := block_cell (j := 2) gY (v := .slice tp2 n2 tc2) rfl
          have b3 := block_cell (j := 3) gY (v := .int .i64 (F2 : Nat)) rfl
          have b4 := block_cell (j := 4) gY (v := .int .i64 (zz2 : Nat)) rfl
          have b5 := block_cell (j := 5) gY (v := .slice lp2 l2 lc2) rfl
          have b6 := block_cell (j := 6) gY (v := .int .i64 (M2 : Nat)) rfl
          have y0 := block_cell (j := 0) gX (v := .slice p n c) rfl
          have y1 := block_cell (j := 1) gX (v := .int .i64 (s : Nat)) rfl
          have y2 := block_cell (j := 2) gX (v := .slice tp n1 tc) rfl
          have y3 := block_cell (j := 3) gX (v := .int .i64 (F1 : Nat)) rfl
          have y4 := block_cell (j := 4) gX (v := .int .i64 (z : Nat)) rfl
          have y5 := block_cell (j := 5) gX (v := .slice lp ln lc) rfl
          have y6 := block_cell (j := 6) gX (v := .int .i64 (M : Nat)) rfl
          have z0 := block_free 0 gX
          have z1 := block_free 1 gX
          have z2 := block_free 2 gX
          have z3 := block_free 3 gX
          have z4 := block_free 4 gX
          have z5 := block_free 5 gX
          have z6 := block_free 6 gX
          have HPUT := Lib.hid (seven_put (.slice p2 nV2 c2) (.int .i64 (s2 : Nat)) (.slice tp2 n2 tc2) (.int .i64 (F2 : Nat)) (.int .i64 (zz2 : Nat)) (.slice lp2 l2 lc2) (.int .i64 (M2 : Nat)) gX)
          clear gX gY
          go_wp2_with fail
          obtain ⟨col7, hdp7⟩ := HST.out _ _ HB11.out HPUT.out.1 HPUT.out.2 HTN.out (HEQ.out.2.2.2.2.2.1 ▸ HLN.out) (HEQ.out.2.2.2.2.2.2 ▸ HMN.out)
          have HDP7 := Lib.hid hdp7
          clear hdp7
          go_roundw
          case rel => exact ⟨j + 1, D, col7, p2, tp2, lp2, c2, tc2, lc2, by omega, by go_num, HDP7⟩
          case measure => simp [intOf]; omega
        · go_simp
          have hb4 : Below wr.heap.size wr (wr.drew.alloc (.cells #[.slice none 0 0, .int .i64 0, .slice none 0 0, .int .i64 0, .int .i64 0, .slice none 0 0, .int .i64 0] 36)) := hHeld.out.alloc hHeld.out.size _
          have hY4 := alloc_block wr.drew (.cells #[.slice none 0 0, .int .i64 0, .slice none 0 0, .int .i64 0, .int .i64 0, .slice none 0 0, .int .i64 0] 36)
          refine hK.out _ _ (Lib.hid hb4) (fun hHeld2 => ?_)
          have HB4 := Lib.hid hb4
          have HY4 := Lib.hid hY4
          clear hb4 hY4
          clear hK K hHeld
          have hHeld := hHeld2
          clear hHeld2
          try simp only [Act.put, List.setIfInBounds_toArray, List.set_cons_zero, List.set_cons_succ]
          have hq2 : ∀ k, (wr.drew.alloc (.cells #[.slice none 0 0, .int .i64 0, .slice none 0 0, .int .i64 0, .int .i64 0, .slice none 0 0, .int .i64 0] 36)).heap.size ≤ k → (col k = 0 ∧ k ≠ X) ∧ k ≠ wr.heap.size := fun k hk => by
            have h1 : wr.heap.size + 1 ≤ k := by simpa using hk
            have h2 := HXL.out
            exact ⟨⟨HFLAT.out k (by omega), by omega⟩, by omega⟩
          refine wpAnyH_ready (rs := [5]) (by kernel_rfl) (by simp) (AllReadyH.cons rfl (fun K hK => ?_) AllReadyH.nil)
          go_simp
          go_wp2_with fail
          refine (HTOLD.out (wr.drew.alloc (.cells #[.slice none 0 0, .int .i64 0, .slice none 0 0, .int .i64 0, .int .i64 0, .slice none 0 0, .int .i64 0] 36)) (fun k => (col k = 0 ∧ k ≠ X) ∧ k ≠ wr.heap.size) HB4.out hq2 (fun k h1 h2 => ⟨h1, by omega⟩)).mono ?_
          rintro e w5 ⟨p2, c2, tp2, tc2, lp2, lc2, nV2, s2, n2, F2, zz2, l2, M2, rfl, H5⟩
          go_wp2_with fail
          have hb5 : Below wr.heap.size wr w5 := HB4.out.trans (H5.out.2.1.mono HB4.out.size)
          have HY0 : Hid (w5.heap[wr.heap.size]? = some (.cells #[.slice none 0 0, .int .i64 0, .slice none 0 0, .int .i64 0, .int .i64 0, .slice none 0 0, .int .i64 0] 36 (0, 0))) := Lib.hid (block_later HY4.out H5.out.2.1)
          refine hK.out _ _ (Lib.hid hb5) (fun hHeld2 => ?_)
          have HB5 := Lib.hid hb5
          clear hb5
          clear hK K hHeld
          have hHeld := hHeld2
          clear hHeld2
          try simp only [Act.put, List.setIfInBounds_toArray, List.set_cons_zero, List.set_cons_succ]
          refine wpAnyH_take (i := 6) (oi := ⟨some 28, _, _, _, _, _⟩) (v := .tuple #[.agg #[.slice p2 nV2 c2, .int .i64 (s2 : Nat), .slice tp2 n2 tc2, .int .i64 (F2 : Nat), .int .i64 (zz2 : Nat), .slice lp2 l2 lc2, .int .i64 (M2 : Nat)], .int .i64 e0]) rfl (by kernel_rfl) (by kernel_rfl) (by kernel_rfl) (fun _ _ _ h => h) (Or.inl ⟨by rfl, fun w' hw' => ?_⟩) (by assumption) ?_
          · clear hHeld
            go_simp
          simp only [Act.put, List.setIfInBounds_toArray, List.set_cons_zero, List.set_cons_succ]
          refine wpAnyH_take (i := 7) (oi := ⟨some 35, _, _, _, _, _⟩) (v := .agg #[.slice p2 nV2 c2, .int .i64 (s2 : Nat), .slice tp2 n2 tc2, .int .i64 (F2 : Nat), .int .i64 (zz2 : Nat), .slice lp2 l2 lc2, .int .i64 (M2 : Nat)]) rfl (by kernel_rfl) (by kernel_rfl) (by kernel_rfl) (fun _ _ _ h => h) (Or.inl ⟨by rfl, fun w' hw' => ?_⟩) (by assumption) ?_
          · clear hHeld
            go_simp
          simp only [Act.put, List.setIfInBounds_toArray, List.set_cons_zero, List.set_cons_succ]
          refine wpAnyH_take (i := 8) (oi := ⟨some 36, _, _, _, _, _⟩) (v := .int .i64 e0) rfl (by kernel_rfl) (by kernel_rfl) (by kernel_rfl) (fun _ _ _ h => h) (Or.inl ⟨by rfl, fun w' hw' => ?_⟩) (by assumption) ?_
          · clear hHeld
            go_simp
          simp only [Act.put, List.setIfInBounds_toArray, List.set_cons_zero, List.set_cons_succ]
          refine wpAnyH_ready (rs := [10]) (by kernel_rfl) (by simp) (AllReadyH.cons rfl (fun K hK => ?_) AllReadyH.nil)
          rw [if_pos (by rfl)]
          refine wp_store_row 36 _ _ rfl wr.heap.size #[.slice p2 nV2 c2, .int .i64 (s2 : Nat), .slice tp2 n2 tc2, .int .i64 (F2 : Nat), .int .i64 (zz2 : Nat), .slice lp2 l2 lc2, .int .i64 (M2 : Nat)] rfl rfl 36 _ HY0.out (by kernel_rfl) rfl (by kernel_rfl) ?_
          have HY1 : Hid ((w5.setRow wr.heap.size #[.slice p2 nV2 c2, .int .i64 (s2 : Nat), .slice tp2 n2 tc2, .int .i64 (F2 : Nat), .int .i64 (zz2 : Nat), .slice lp2 l2 lc2, .int .i64 (M2 : Nat)]).heap[wr.heap.size]? = some (.cells #[.slice p2 nV2 c2, .int .i64 (s2 : Nat), .slice tp2 n2 tc2, .int .i64 (F2 : Nat), .int .i64 (zz2 : Nat), .slice lp2 l2 lc2, .int .i64 (M2 : Nat)] 36 (0, 0))) := Lib.hid (setRow_heap _ _ _ _ _ _ HY0.out)
          have HEQ : Hid (D.V.length = nV2 ∧ D.s = s2 ∧ D.t.B.length = n2 ∧ D.t.f * D.z = F2 ∧ D.z = zz2 ∧ D.L.length = l2 ∧ D.M = M2) := Lib.hid H5.out.2.2
          have HDQ : Hid (Dq w' wr _ col X wr.heap.size D p2 c2 tp2 tc2 lp2 lc2) := Lib.hid ⟨(Chg.setRow _).below HB5.out HB5.out.size (fun k hk => by have h9 : k = wr.heap.size := hk; omega), Nat.le_refl _, H5.out.1.keep (Chg.setRow _) (fun k hk hs => hk.2 hs), by obtain ⟨e1, e2, e3, e4, e5, e6, e7⟩ := HEQ.out; rw [e1, e2, e3, e4, e5, e6, e7]; exact HY1.out⟩
          clear HB5 HB4 HY4 H5
          refine hK.out _ _ (Lib.hid HDQ.out.below) (fun hHeld2 => ?_)
          clear hK K hHeld
          have hHeld := hHeld2
          clear hHeld2
          try simp only [Act.put, List.setIfInBounds_toArray, List.set_cons_zero, List.set_cons_succ]
          refine wpAnyH_take (i := 11) (oi := ⟨some 9, _, _, _, _, _⟩) (v := .int .i64 e0) rfl (by kernel_rfl) (by kernel_rfl) (by kernel_rfl) (fun _ _ _ h => h) (Or.inl ⟨by rfl, fun w' hw' => ?_⟩) (by assumption) ?_
          · clear hHeld
            go_simp
          simp only [Act.put, List.setIfInBounds_toArray, List.set_cons_zero, List.set_cons_succ]
          refine wpAnyH_done (by kernel_rfl) ?_ _
          clear hHeld
          obtain ⟨g0, g1, g2, g3, g4⟩ := HCA.out _ HDQ.out.below
          have hdo := HDO.out _ HDQ.out.below
          clear HTOLD HDO HY0 HY1
          generalize hW9 : World.setRow _ _ _ = W9 at HDQ hdo g0 g1 g2 g3 g4 ⊢
          clear hW9
          go_wp2_with fail
          refine hdo.mono ?_
          rintro e w10 ⟨rfl, ht⟩
          obtain ⟨⟨col5, hdk⟩, hrd10, hY10, hX10, _⟩ := HSTEP.out W9 w10 w10 w10 _ D p2 tp2 lp2 c2 tc2 lc2 HDQ.out ht
          have HST := Lib.hid (fun w11 w12 => (HSTEP.out W9 w10 w11 w12 _ D p2 tp2 lp2 c2 tc2 lc2 HDQ.out ht).2.2.2.2)
          have hsame := dsame_any hdk hrd10 (by have := HTN.out; have : (j + 1) * 300 ≤ 41 * 300 := Nat.mul_le_mul_right _ (by omega); omega)
          obtain ⟨e1, e2, e3, e4, e5, e6, e7⟩ := HEQ.out
          rw [e1, e2, e3, e4, e5, e6, e7] at hsame hY10 HST
          clear e1 e2 e3 e4 e5 e6 e7 hdk hrd10 ht hdo HSTEP g0 g1 g2 g3 g4
          have HY10 := Lib.hid hY10
          have HX10 := Lib.hid hX10
          clear hX10
          have b0 := block_cell (j := 0) hY10 (v := .slice p2 nV2 c2) rfl
          have b1 := block_cell (j := 1) hY10 (v := .int .i64 (s2 : Nat)) rfl
          have b2 := block_cell (j := 2) hY10 (v := .slice tp2 n2 tc2) rfl
          have b3 := block_cell (j := 3) hY10 (v := .int .i64 (F2 : Nat)) rfl
          have b4 := block_cell (j := 4) hY10 (v := .int .i64 (zz2 : Nat)) rfl
          have b5 := block_cell (j := 5) hY10 (v := .slice lp2 l2 lc2) rfl
          have b6 := block_cell (j := 6) hY10 (v := .int .i64 (M2 : Nat)) rfl
          clear hY10
          have qe : (e0 != e0) = false := by simp
          go_wp2_with fail
          refine hsame.mono ?_
          rintro e w11 ⟨rfl, hb11⟩
          clear b0 b1 b2 b3 b4 b5 b6
          have gY := block_later HY10.out hb11
          have gX := block_later HX10.out hb11
          have HB11 := Lib.hid hb11
          clear hb11 hsame
          have b0 := block_cell (j := 0) gY (v := .slice p2 nV2 c2) rfl
          have b1 := block_cell (j := 1) gY (v := .int .i64 (s2 : Nat)) rfl
          have b2 := block_cell (j := 2) gY (v := .slice tp2 n2 tc2) rfl
          have b3 := block_cell (j := 3) gY (v := .int .i64 (F2 : Nat)) rfl
          have b4 := block_cell (j := 4) gY (v := .int .i64 (zz2 : Nat)) rfl
          have b5 := block_cell (j := 5) gY (v := .slice lp2 l2 lc2) rfl
          have b6 := block_cell (j := 6) gY (v := .int .i64 (M2 : Nat)) rfl
          have y0 := block_cell (j := 0) gX (v := .slice p n c) rfl
          have y1 := block_cell (j := 1) gX (v := .int .i64 (s : Nat)) rfl
          have y2 := block_cell (j := 2) gX (v := .slice tp n1 tc) rfl
          have y3 := block_cell (j := 3) gX (v := .int .i64 (F1 : Nat)) rfl
          have y4 := block_cell (j := 4) gX (v := .int .i64 (z : Nat)) rfl
          have y5 := block_cell (j := 5) gX (v := .slice lp ln lc) rfl
          have y6 := block_cell (j := 6) gX (v := .int .i64 (M : Nat)) rfl
          have z0 := block_free 0 gX
          have z1 := block_free 1 gX
          have z2 := block_free 2 gX
          have z3 := block_free 3 gX
          have z4 := block_free 4 gX
          have z5 := block_free 5 gX
          have z6 := block_free 6 gX
          have HPUT := Lib.hid (seven_put (.slice p2 nV2 c2) (.int .i64 (s2 : Nat)) (.slice tp2 n2 tc2) (.int .i64 (F2 : Nat)) (.int .i64 (zz2 : Nat)) (.slice lp2 l2 lc2) (.int .i64 (M2 : Nat)) gX)
          clear gX gY
          go_wp2_with fail
          obtain ⟨col7, hdp7⟩ := HST.out _ _ HB11.out HPUT.out.1 HPUT.out.2 HTN.out (HEQ.out.2.2.2.2.2.1 ▸ HLN.out) (HEQ.out.2.2.2.2.2.2 ▸ HMN.out)
          have HDP7 := Lib.hid hdp7
          clear hdp7
          go_roundw
          case rel => exact ⟨j + 1, D, col7, p2, tp2, lp2, c2, tc2, lc2, by omega, by go_num, HDP7⟩
          case measure => simp [intOf]; omega
      · obtain rfl : j = len1 := by omega
        have HBW := Lib.hid HP.out.hd.below
        go_wp2_with fail
        refine (disk_works _).mono ?_
        rintro e W4 ⟨rfl, hb4⟩
        have HB4 := Lib.hid (HBW.out.trans (hb4.mono HBW.out.size))
        clear hb4
        go_wp2_with fail
        go_ret
        exact ⟨rfl, HB4.out⟩

set_option maxRecDepth 100000 in
theorem lifted (os : Os) (started : os.Started) (H : Type) (enc : TypeId × Value → H) :
    ReturnsInHanded {} Try.checked os 3 .any (Rows.diskPlaysSpec.pre6 enc Try.prog Try.f3 Rows.diskPlaysRow.domain false) (Rows.diskPlaysSpec.post enc Try.prog Try.f3 false true false false) := by
  refine returnsInHanded_of_change (C := Try.checked) own started (by kernel_rfl) Try.func3
    (ChangeSpec.witness6 (enc := enc) (C := Try.checked) false ⟨#[], #[.int .u16 0, .slice none 0 0], []⟩ 8 (by kernel_rfl) (by kernel_rfl) (by kernel_rfl) (by kernel_rfl)) ?_
  intro W base args ds gs before hval0 hW hcnd _
  have hval : ∀ (j : Nat) t v, Try.f3.params[j]? = some t → args[j]? = some v → Value.okWide Try.prog W .any base t v := hval0
  have hW' := hW
  obtain ⟨p, q, hA0, hV, rfl, hfz, hnd⟩ := hW
  have hA : DataW.TrodAll enc Try.prog W 0 (fun _ => true) true Try.f3.params.toList args.toList ds p := hA0
  rw [Try.params3] at hA hval
  obtain ⟨v0, vs0, d0, ds0, p0, q0, hargs, rfl, rfl, h0, r0⟩ := trodAll_cons hA
  obtain ⟨v1, vs1, d1, ds1, p1, q1, rfl, rfl, rfl, h1, r1⟩ := trodAll_cons r0
  obtain ⟨rfl, rfl, rfl⟩ := trodAll_nil r1
  obtain rfl : args = #[v0, v1] := by cases args; simp_all
  obtain ⟨rfl, rfl⟩ := trodVars_none hV
  have k0 := h0
  have lt0 : ∀ x ∈ p0, x.block < W.heap.size := by obtain ⟨m, hm⟩ := k0; exact DataW.trod_lt m _ _ _ hm
  obtain ⟨a0, rfl, rfl, rfl, w0⟩ := open_int Try.underlying22 (hval 0 22 v0 rfl rfl) h0
  obtain ⟨a1, len1, cap1, rfl⟩ := okWide_slice Try.underlying23 (hval 1 23 v1 rfl rfl)
  have k1 := h1
  have lt1 : ∀ x ∈ p1, x.block < W.heap.size := by obtain ⟨m, hm⟩ := k1; exact DataW.trod_lt m _ _ _ hm
  obtain ⟨L1, w1⟩ : ∃ L, AL W a1 len1 cap1 L ∧ ∀ y ∈ L, AnyA y := by
    obtain ⟨fuel, hf⟩ := h1
    exact open_acts hf
  clear hA0 hval0
  refine (walk a0 a1 len1 cap1 L1 W w0 w1).mono fun e W' ⟨he, bel⟩ => ?_
  subst he
  exact ⟨_, rfl, _, _, _, [], _, [], hW', trodAll_mk1 (shut_bool Try.underlying4 _), (trodAll_cons_mk (Below.trod laidOut (by kernel_rfl) (of_decide_eq_true (by kernel_rfl)) k0 bel lt0) (trodAll_cons_mk (Below.trod laidOut (by kernel_rfl) (of_decide_eq_true (by kernel_rfl)) k1 bel lt1) trodAll_mk0)), rfl, bel.frame _, fun h => by cases h⟩

theorem over : Rows.diskPlaysRow.holds Try.pinned (OpenSpec.ofChange Rows.diskPlaysSpec) :=
  OpenClaim.holds_of_wide 3 Try.f3 rfl rfl rfl rfl rfl rfl rfl ⟨rfl, rfl, rfl, rfl, rfl⟩ rfl rfl rfl rfl rfl (by kernel_rfl) Try.func3 (by kernel_rfl)
    (of_decide_eq_true (by kernel_rfl)) (by unfold Func.isWrapper; first | (rw [if_pos (by decide +kernel)]; kernel_rfl) | (rw [if_neg (by decide +kernel)]; exact ⟨rfl, rfl⟩))
    (fun os started H enc _ => lifted os started H enc)

theorem proved : Rows.DiskPlaysSaid := over
#print axioms proved
end Go.Proofs.Ytdkpjaobfohdfaa.diskPlays
