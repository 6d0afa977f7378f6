/-
  ConfSmall answers true of any small numbers, and writes nothing that was there. No condition.
PLAIN4
-/
import Derived.Test.YthkeefdapnkgeaaRows
import Derived.Test.YthkeefdapnkgeaaConfTold
import Derived.Deep.RegionHeld
import Derived.WalkKit
import Derived.ProofKit
import Derived.OpenShut
import Derived.ShutString
import Derived.ChangeOld
import Derived.Below
namespace Go.Proofs.Ythkeefdapnkgeaa.confSmall
open Go.ChangeShapes Go.WideShapes Go.ChangeAt Go.RowKit
open Go.ChangeMaps (open_string shut_string)
set_option linter.unusedVariables false

theorem own : ownKnob Try.prog.godebug = none := by kernel_rfl
theorem laidOut : laidOutB Try.prog = true := by kernel_rfl
set_option linter.unusedSimpArgs false
theorem twin {w0 : World} {P P' B : Nat} {C : Cf} {old old' : Array Value} (h0 : CB w0 B C) (hP : w0.heap[P]? = some (.cells old 30 (0, 0))) (hP' : w0.heap[P']? = some (.cells old' 30 (0, 0))) (n1 : P ≠ P') (n2 : B ≠ P) (n3 : B ≠ P') :
    CB (w0.setRow P (cc C)) B C ∧ (w0.setRow P (cc C)).heap[P']? = some (.cells old' 30 (0, 0)) ∧ CB ((w0.setRow P (cc C)).setRow P' (cc C)) B C ∧ CB ((w0.setRow P (cc C)).setRow P' (cc C)) P C ∧ CB ((w0.setRow P (cc C)).setRow P' (cc C)) P' C := by
  have a1 : CB (w0.setRow P (cc C)) B C := (setRow_other _ _ _ _ n2).trans h0
  have a2 : (w0.setRow P (cc C)).heap[P']? = some (.cells old' 30 (0, 0)) := (setRow_other _ _ _ _ (fun e => n1 e.symm)).trans hP'
  have a3 : CB (w0.setRow P (cc C)) P C := CB.setRow C hP
  exact ⟨a1, a2, (setRow_other _ _ _ _ n3).trans a1, (setRow_other _ _ _ _ n1).trans a3, CB.setRow C a2⟩

set_option maxHeartbeats 1000000 in
set_option maxRecDepth 100000 in
theorem walk (a0 : Array Value) (w : World) (w0 : SmallIn w a0) :
    Calls Try.prog 6 #[.agg a0] w fun e w' => e = .returned (.bool true) ∧ Below w.heap.size w w' := by
  obtain ⟨n0, n1, n2, n3, n4, n5, n6, n7, n8, n9, n10, n11, ⟨b0, b1, b2, b3, b4, b5, b6, b7, b8, b9, b10, b11⟩, rfl⟩ := w0
  have HCF0 := Lib.hid fun W => config_any n0 n1 n2 n3 n4 n5 n6 n7 n8 n9 n10 n11 b0 b1 b2 b3 b4 b5 b6 b7 b8 b9 b10 b11 W
  obtain ⟨s, hs⟩ : ∃ s, 1 + n0 % 3 = s := ⟨_, rfl⟩
  obtain ⟨v, hv⟩ : ∃ v, 1 + n1 % 3 = v := ⟨_, rfl⟩
  obtain ⟨lo, hlo⟩ : ∃ l, n4 % 4 = l := ⟨_, rfl⟩
  obtain ⟨sg, hsg⟩ : ∃ x, 1 + n6 % 8 = x := ⟨_, rfl⟩
  obtain ⟨od, hod⟩ : ∃ x, 1 + n7 % 32 = x := ⟨_, rfl⟩
  obtain ⟨rt, hrt⟩ : ∃ x, n8 % 5 = x := ⟨_, rfl⟩
  obtain ⟨se, hse⟩ : ∃ x, 64 + n9 = x := ⟨_, rfl⟩
  obtain ⟨cp, hcp⟩ : ∃ x, se + 1 + n10 = x := ⟨_, rfl⟩
  obtain ⟨bk, hbk⟩ : ∃ x, 64 + 2 * n11 = x := ⟨_, rfl⟩
  rw [hs, hv, hlo, hsg, hod, hrt, hse, hcp, hbk] at HCF0
  have hs3 : 1 ≤ s ∧ s ≤ 3 := by omega
  have hv3 : 1 ≤ v ∧ v ≤ 3 := by omega
  have hsg8 : 1 ≤ sg ∧ sg ≤ 8 := by omega
  have hod8 : 1 ≤ od ∧ od ≤ 32 := by omega
  have hrt4 : rt ≤ 4 := by omega
  have hse4 : 64 ≤ se ∧ se ≤ 319 := by omega
  have hcp4 : se + 1 ≤ cp ∧ cp ≤ 65855 := by omega
  have hbk4 : 64 ≤ bk ∧ bk ≤ 574 := by omega
  have hhi := high_ge n2 n3
  have hpos := all_pos s v (by omega) (by omega)
  have h80 := all_len s v (by omega) (by omega)
  have HCK := Lib.hid fun p n c hn (cp' bs : Nat) a5 a7 W h => tcheck_any s v n5 lo hs3 hv3 n2 (highI n2 n3) (by omega) hhi p n c hn sg od rt se cp' bk bs hsg8 hod8 hrt4 (by omega) a5 (by omega) a7 W h
  have HLN : Hid (0 < (plainL s v n2 (highI n2 n3)).length ∧ (plainL s v n2 (highI n2 n3)).length ≤ 80) := Lib.hid (by rw [plain_len]; omega)
  have HND := Lib.hid fun n (hn : n ≤ 80) => needT_le n bk sg od hn (by omega)
  unfold MadeS at HCF0
  have HCF := HCF0
  clear HCF0 hs hv hlo hsg hod hrt hse hcp hbk hhi hpos h80
  generalize plainL s v n2 (highI n2 n3) = M at *
  have hb0 : Below w.heap.size w (w.alloc (.cells #[.int .u8 n0, .int .u8 n1, .int .u8 n2, .int .u16 n3, .int .u8 n4, .int .u8 n5, .int .u8 n6, .int .u8 n7, .int .u8 n8, .int .u8 n9, .int .u16 n10, .int .u8 n11] 45)) := (Below.refl w.heap.size w).alloc (Nat.le_refl _) _
  have HB0 := Lib.hid hb0
  clear hb0
  go_enter Try.func6, Try.ntmps6
  go_wp2_with fail
  refine (HCF.out _).mono ?_
  rintro e W2 ⟨p, c, n, hn, rfl, hd, hb⟩
  obtain ⟨hn0, hn80⟩ := HLN.out
  rw [← hn] at hn0 hn80
  obtain ⟨nd, hnd⟩ : ∃ x, needT n sg od bk = x := ⟨_, rfl⟩
  have hnd2 := HND.out n hn80
  rw [hnd] at hnd2 ⊢
  obtain ⟨nd1, hnd1⟩ : ∃ x, nd - 1 = x := ⟨_, rfl⟩
  have hsub : (nd : Int) - 1 = (nd1 : Int) := by omega
  have hk1 := fun W h => HCK.out p n c hn cp nd (by omega) (by omega) W h
  have hk2 := fun W h => HCK.out p n c hn cp nd1 (by omega) (by omega) W h
  have hk3 := fun W h => HCK.out p n c hn se nd (by omega) (by omega) W h
  rw [hnd, if_neg (by omega), if_neg (by omega)] at hk1
  rw [hnd, if_neg (by omega), if_pos (by omega)] at hk2
  rw [if_pos (by omega)] at hk3
  have HK1 := Lib.hid hk1
  have HK2 := Lib.hid hk2
  have HK3 := Lib.hid hk3
  have HQ2 : Hid (∀ w B, CB w B (tcf s v p n c (prM v s n5 s 0) sg od rt se cp bk nd) → CB (w.setCell ⟨B, 25, none⟩ (.int .i64 ((nd : Int) - 1))) B (tcf s v p n c (prM v s n5 s 0) sg od rt se cp bk nd1)) := Lib.hid fun w B h => by
    rw [hsub]
    exact block_put 25 _ h
  have HQ3 : Hid (∀ w B, CB w B (tcf s v p n c (prM v s n5 s 0) sg od rt se cp bk nd) → CB (w.setCell ⟨B, 23, none⟩ (.int .i64 se)) B (tcf s v p n c (prM v s n5 s 0) sg od rt se se bk nd)) := Lib.hid fun w B h => block_put 23 _ h
  have HC25 : Hid ((cc (tcf s v p n c (prM v s n5 s 0) sg od rt se cp bk nd))[25]? = some (.int .i64 nd)) := Lib.hid rfl
  have HC22 : Hid ((cc (tcf s v p n c (prM v s n5 s 0) sg od rt se cp bk nd))[22]? = some (.int .i64 se)) := Lib.hid rfl
  have HC23 : Hid ((cc (tcf s v p n c (prM v s n5 s 0) sg od rt se cp bk nd))[23]? = some (.int .i64 cp)) := Lib.hid rfl
  obtain ⟨hnda, hndb⟩ := hnd2
  clear hk1 hk2 hk3 hnd hnd1 hsub HCF HCK HND hsg8 hod8 hrt4 hse4 hcp4 hbk4
  generalize tcf s v p n c (prM v s n5 s 0) sg od rt se cp bk nd1 = C2 at *
  generalize tcf s v p n c (prM v s n5 s 0) sg od rt se se bk nd = C3 at *
  generalize tcf s v p n c (prM v s n5 s 0) sg od rt se cp bk nd = C at *
  have hbb := HB0.out.trans (hb.mono HB0.out.size)
  have hb2 := (Below.refl W2.heap.size W2).alloc (Nat.le_refl _) (.cells (cc C) 30)
  have HC3 := Lib.hid (CB.new W2 C)
  have HB3 := Lib.hid (hbb.alloc hbb.size (.cells (cc C) 30))
  have HD3 := Lib.hid (hd.later hb2)
  have hpb0 : ∀ a, p = some a → a.block < W2.heap.size := fun a ha => by
    obtain ⟨b', off', hp', hlt', _⟩ := hd.cell hn0
    rw [hp'] at ha
    cases ha
    exact hlt'
  have hWB : w.heap.size ≤ W2.heap.size := hbb.size
  have hBW : W2.heap.size < (W2.alloc (.cells (cc C) 30)).heap.size := HC3.out.lt
  clear hb hd hb2 hbb HB0 hn
  go_upto_region 2 with ((with_reducible refine wpList_store_new (C := C) ?_ ?_ ?_ ?_); rfl; rfl; rfl)
  generalize W2.alloc (.cells (cc C) 30) = W3 at *
  generalize W2.heap.size = B at *
  have hS0 : (fun w' => Hid (CB w' B C)) W3.drew := Lib.hid (HC3.out.later (Below.refl _ _).drew)
  refine wp_region_held_drew (S := (fun w' => Hid (CB w' B C))) (by kernel_rfl) hS0 (fun hHeld => ?_)
  have HB4 : Hid (Below w.heap.size w W3.drew) := Lib.hid HB3.out.drew
  have HD4 : Hid (DL W3.drew p n c (mix (-(lo : Int)) n n M)) := Lib.hid (HD3.out.later (Below.refl _ _).drew)
  have hBWd : B < W3.drew.heap.size := hBW
  clear HB3 HD3 HC3 hS0 hBW
  generalize W3.drew = Wd at *
  refine wpAnyH_take (i := 0) (oi := ⟨some 8, _, _, _, _, none⟩) (v := .agg (cc C)) rfl (by kernel_rfl) (by kernel_rfl) (by kernel_rfl) (fun _ _ _ h => h) (Or.inl ⟨by rfl, fun w' hw' => held_load_cf rfl (Hid.out hw')⟩) (by assumption) ?_
  simp only [Act.put, List.setIfInBounds_toArray, List.set_cons_zero, List.set_cons_succ]
  refine wpAnyH_take (i := 1) (oi := ⟨some 9, _, _, _, _, none⟩) (v := .agg (cc C)) rfl (by kernel_rfl) (by kernel_rfl) (by kernel_rfl) (fun _ _ _ h => h) (Or.inl ⟨by rfl, fun w' hw' => held_load_cf rfl (Hid.out hw')⟩) (by assumption) ?_
  simp only [Act.put, List.setIfInBounds_toArray, List.set_cons_zero, List.set_cons_succ]
  have hb2 : Below Wd.heap.size Wd ((Wd.alloc (.cells #[.int .i64 0, .int .i64 0, .slice none 0 0, .int .u8 0, .int .u8 0, .int .u8 0, .int .u8 0, .int .u8 0, .int .u8 0, .int .u8 0, .int .u8 0, .int .u8 0, .int .u8 0, .int .u8 0, .int .u8 0, .int .u8 0, .int .u8 0, .int .u8 0, .int .u8 0, .int .i64 0, .int .i64 0, .int .i64 0, .int .i64 0, .int .i64 0, .int .i64 0, .int .i64 0] 30)).alloc (.cells #[.int .i64 0, .int .i64 0, .slice none 0 0, .int .u8 0, .int .u8 0, .int .u8 0, .int .u8 0, .int .u8 0, .int .u8 0, .int .u8 0, .int .u8 0, .int .u8 0, .int .u8 0, .int .u8 0, .int .u8 0, .int .u8 0, .int .u8 0, .int .u8 0, .int .u8 0, .int .i64 0, .int .i64 0, .int .i64 0, .int .i64 0, .int .i64 0, .int .i64 0, .int .i64 0] 30)) := ((Below.refl Wd.heap.size Wd).alloc (Nat.le_refl _) _).alloc (by simp) _
  have hCB2 := hHeld.out.later hb2
  have hDL2 := HD4.out.later hb2
  have hBB2 := HB4.out.trans (hb2.mono HB4.out.size)
  have hWd := HB4.out.size
  have hY0 := block_later (alloc_block Wd (.cells #[.int .i64 0, .int .i64 0, .slice none 0 0, .int .u8 0, .int .u8 0, .int .u8 0, .int .u8 0, .int .u8 0, .int .u8 0, .int .u8 0, .int .u8 0, .int .u8 0, .int .u8 0, .int .u8 0, .int .u8 0, .int .u8 0, .int .u8 0, .int .u8 0, .int .u8 0, .int .i64 0, .int .i64 0, .int .i64 0, .int .i64 0, .int .i64 0, .int .i64 0, .int .i64 0] 30)) ((Below.refl _ _).alloc (Nat.le_refl _) (.cells #[.int .i64 0, .int .i64 0, .slice none 0 0, .int .u8 0, .int .u8 0, .int .u8 0, .int .u8 0, .int .u8 0, .int .u8 0, .int .u8 0, .int .u8 0, .int .u8 0, .int .u8 0, .int .u8 0, .int .u8 0, .int .u8 0, .int .u8 0, .int .u8 0, .int .u8 0, .int .i64 0, .int .i64 0, .int .i64 0, .int .i64 0, .int .i64 0, .int .i64 0, .int .i64 0] 30))
  have hY1 : ((Wd.alloc (.cells #[.int .i64 0, .int .i64 0, .slice none 0 0, .int .u8 0, .int .u8 0, .int .u8 0, .int .u8 0, .int .u8 0, .int .u8 0, .int .u8 0, .int .u8 0, .int .u8 0, .int .u8 0, .int .u8 0, .int .u8 0, .int .u8 0, .int .u8 0, .int .u8 0, .int .u8 0, .int .i64 0, .int .i64 0, .int .i64 0, .int .i64 0, .int .i64 0, .int .i64 0, .int .i64 0] 30)).alloc (.cells #[.int .i64 0, .int .i64 0, .slice none 0 0, .int .u8 0, .int .u8 0, .int .u8 0, .int .u8 0, .int .u8 0, .int .u8 0, .int .u8 0, .int .u8 0, .int .u8 0, .int .u8 0, .int .u8 0, .int .u8 0, .int .u8 0, .int .u8 0, .int .u8 0, .int .u8 0, .int .i64 0, .int .i64 0, .int .i64 0, .int .i64 0, .int .i64 0, .int .i64 0, .int .i64 0] 30)).heap[Wd.heap.size + 1]? = some (.cells #[.int .i64 0, .int .i64 0, .slice none 0 0, .int .u8 0, .int .u8 0, .int .u8 0, .int .u8 0, .int .u8 0, .int .u8 0, .int .u8 0, .int .u8 0, .int .u8 0, .int .u8 0, .int .u8 0, .int .u8 0, .int .u8 0, .int .u8 0, .int .u8 0, .int .u8 0, .int .i64 0, .int .i64 0, .int .i64 0, .int .i64 0, .int .i64 0, .int .i64 0, .int .i64 0] 30 (0, 0)) := by
    have h := alloc_block (Wd.alloc (.cells #[.int .i64 0, .int .i64 0, .slice none 0 0, .int .u8 0, .int .u8 0, .int .u8 0, .int .u8 0, .int .u8 0, .int .u8 0, .int .u8 0, .int .u8 0, .int .u8 0, .int .u8 0, .int .u8 0, .int .u8 0, .int .u8 0, .int .u8 0, .int .u8 0, .int .u8 0, .int .i64 0, .int .i64 0, .int .i64 0, .int .i64 0, .int .i64 0, .int .i64 0, .int .i64 0] 30)) (.cells #[.int .i64 0, .int .i64 0, .slice none 0 0, .int .u8 0, .int .u8 0, .int .u8 0, .int .u8 0, .int .u8 0, .int .u8 0, .int .u8 0, .int .u8 0, .int .u8 0, .int .u8 0, .int .u8 0, .int .u8 0, .int .u8 0, .int .u8 0, .int .u8 0, .int .u8 0, .int .i64 0, .int .i64 0, .int .i64 0, .int .i64 0, .int .i64 0, .int .i64 0, .int .i64 0] 30)
    simpa using h
  have hpb : ∀ a, p = some a → a.block < Wd.heap.size := fun a ha => Nat.lt_trans (hpb0 a ha) hBWd
  clear hb2 HD4 HB4 hpb0
  refine wpAnyH_ready (rs := [2, 3]) (by kernel_rfl) (by simp) (AllReadyH.cons rfl (fun K hK => ?_) (AllReadyH.cons rfl (fun K hK => ?_) AllReadyH.nil))
  · go_simp
    refine hK.out _ _ (Lib.hid (hHeld.out.later ((Below.refl _ _).alloc (Nat.le_refl _) _))) (fun _ => ?_)
    clear hK K
    refine wpAnyH_ready (rs := [3]) (by kernel_rfl) (by simp) (AllReadyH.cons rfl (fun K hK => ?_) AllReadyH.nil)
    go_simp
    refine hK.out _ _ (Lib.hid hCB2) (fun _ => ?_)
    clear hK K
    refine wpAnyH_ready (rs := [4]) (by kernel_rfl) (by simp) (AllReadyH.cons rfl (fun K hK => ?_) AllReadyH.nil)
    rw [if_pos (by rfl)]
    refine wp_store_row 30 _ _ rfl Wd.heap.size (cc C) rfl rfl 30 _ hY0 (by kernel_rfl) rfl (cc_one C) ?_
    have hT := twin hCB2 hY0 hY1 (by omega) (by omega) (by omega)
    refine hK.out _ _ (Lib.hid hT.1) (fun _ => ?_)
    clear hK K
    refine wpAnyH_ready (rs := [5]) (by kernel_rfl) (by simp) (AllReadyH.cons rfl (fun K hK => ?_) AllReadyH.nil)
    rw [if_pos (by rfl)]
    refine wp_store_row 30 _ _ rfl (Wd.heap.size + 1) (cc C) rfl rfl 30 _ hT.2.1 (by kernel_rfl) rfl (cc_one C) ?_
    refine hK.out _ _ (Lib.hid hT.2.2.1) (fun _ => ?_)
    clear hK K
    refine wpAnyH_done (by kernel_rfl) ?_ _
    have HC4 := Lib.hid hT.2.2.1
    have HL4 := Lib.hid hT.2.2.2.1
    have HT4 := Lib.hid hT.2.2.2.2
    have HD4 := Lib.hid ((hDL2.setRow Wd.heap.size (cc C) (fun a ha => by have := hpb a ha; omega)).setRow (Wd.heap.size + 1) (cc C) (fun a ha => by have := hpb a ha; omega))
    have HB4 := Lib.hid (below_setRow (below_setRow hBB2 (show w.heap.size ≤ Wd.heap.size by omega) (cc C)) (show w.heap.size ≤ (Wd.heap.size + 1) by omega) (cc C))
    have HPP : Hid (∀ a, p = some a → a.block ≠ Wd.heap.size ∧ a.block ≠ (Wd.heap.size + 1)) := Lib.hid fun a ha => by
      have := hpb a ha
      omega
    have h23 : Wd.heap.size ≠ (Wd.heap.size + 1) := by omega
    have hB2n : B ≠ Wd.heap.size := by omega
    have hB3n : B ≠ (Wd.heap.size + 1) := by omega
    have hg2 : w.heap.size ≤ Wd.heap.size := by omega
    have hg3 : w.heap.size ≤ (Wd.heap.size + 1) := by omega
    clear hT hY0 hY1 hCB2 hDL2 hBB2 hHeld hpb
    generalize (((Wd.alloc (.cells #[.int .i64 0, .int .i64 0, .slice none 0 0, .int .u8 0, .int .u8 0, .int .u8 0, .int .u8 0, .int .u8 0, .int .u8 0, .int .u8 0, .int .u8 0, .int .u8 0, .int .u8 0, .int .u8 0, .int .u8 0, .int .u8 0, .int .u8 0, .int .u8 0, .int .u8 0, .int .i64 0, .int .i64 0, .int .i64 0, .int .i64 0, .int .i64 0, .int .i64 0, .int .i64 0] 30)).alloc (.cells #[.int .i64 0, .int .i64 0, .slice none 0 0, .int .u8 0, .int .u8 0, .int .u8 0, .int .u8 0, .int .u8 0, .int .u8 0, .int .u8 0, .int .u8 0, .int .u8 0, .int .u8 0, .int .u8 0, .int .u8 0, .int .u8 0, .int .u8 0, .int .u8 0, .int .u8 0, .int .i64 0, .int .i64 0, .int .i64 0, .int .i64 0, .int .i64 0, .int .i64 0, .int .i64 0] 30)).setRow Wd.heap.size (cc C)).setRow (Wd.heap.size + 1) (cc C) = W4 at *
    generalize Wd.heap.size + 1 = P3 at *
    generalize Wd.heap.size = P2 at *
    have z25 := block_cell (j := 25) HL4.out HC25.out
    have f25 := block_free 25 HL4.out
    have HC5 := Lib.hid (HC4.out.far 25 (.int .i64 ((nd : Int) - 1)) hB2n)
    have HL5 := Lib.hid (HQ2.out _ _ HL4.out)
    have HT5 := Lib.hid (HT4.out.far 25 (.int .i64 ((nd : Int) - 1)) (fun e => h23 e.symm))
    have HD5 := Lib.hid (HD4.out.put P2 25 (.int .i64 ((nd : Int) - 1)) (fun a ha => (HPP.out a ha).1))
    have HB5 := Lib.hid (HB4.out.setCell (p := ⟨P2, 25, none⟩) hg2 (.int .i64 ((nd : Int) - 1)))
    go_upto_region 4 with (fail)
    generalize W4.setCell ⟨P2, 25, none⟩ (.int .i64 ((nd : Int) - 1)) = W5 at *
    clear z25 f25 HC4 HL4 HT4 HD4 HB4
    have z22 := block_cell (j := 22) HT5.out HC22.out
    have z23 := block_cell (j := 23) HT5.out HC23.out
    have f23 := block_free 23 HT5.out
    have HC6 := Lib.hid (HC5.out.far 23 (.int .i64 se) hB3n)
    have HL6 := Lib.hid (HL5.out.far 23 (.int .i64 se) h23)
    have HT6 := Lib.hid (HQ3.out _ _ HT5.out)
    have HD6 := Lib.hid (HD5.out.put P3 23 (.int .i64 se) (fun a ha => (HPP.out a ha).2))
    have HB6 := Lib.hid (HB5.out.setCell (p := ⟨P3, 23, none⟩) hg3 (.int .i64 se))
    go_upto_region 5 with (fail)
    generalize W5.setCell ⟨P3, 23, none⟩ (.int .i64 se) = W6 at *
    clear z22 z23 f23 HC5 HL5 HT5 HD5 HB5
    go_wp2_with (first | ((with_reducible refine wpList_load_cf HC6.out ?_ ?_); rfl))
    refine (HK1.out _ HD6.out).mono ?_
    rintro e W7 ⟨rfl, h⟩
    have HL7 := Lib.hid (HL6.out.later h)
    have HT7 := Lib.hid (HT6.out.later h)
    have HD7 := Lib.hid (HD6.out.later h)
    have HB7 := Lib.hid (HB6.out.trans (h.mono HB6.out.size))
    clear h HC6 HL6 HT6 HD6 HB6
    go_wp2_with (first | ((with_reducible refine wpList_load_cfg HL7.out ?_ ?_ ?_); rfl; rfl))
    refine (HK2.out _ HD7.out).mono ?_
    rintro e W8 ⟨rfl, h⟩
    have HT8 := Lib.hid (HT7.out.later h)
    have HD8 := Lib.hid (HD7.out.later h)
    have HB8 := Lib.hid (HB7.out.trans (h.mono HB7.out.size))
    clear h HL7 HT7 HD7 HB7
    go_wp2_with (first | ((with_reducible refine wpList_load_cfg HT8.out ?_ ?_ ?_); rfl; rfl))
    refine (HK3.out _ HD8.out).mono ?_
    rintro e W9 ⟨rfl, h⟩
    have HB9 := Lib.hid (HB8.out.trans (h.mono HB8.out.size))
    clear h HT8 HD8 HB8
    go_wp2_with fail
    refine (works6_any _).mono ?_
    rintro e W10 ⟨rfl, h⟩
    have HB10 := Lib.hid (HB9.out.trans (h.mono HB9.out.size))
    clear h
    go_wp2_with fail
    go_ret
    exact ⟨rfl, HB10.out⟩
  · go_simp
    refine hK.out _ _ (Lib.hid (hHeld.out.later ((Below.refl _ _).alloc (Nat.le_refl _) _))) (fun _ => ?_)
    clear hK K
    refine wpAnyH_ready (rs := [2]) (by kernel_rfl) (by simp) (AllReadyH.cons rfl (fun K hK => ?_) AllReadyH.nil)
    go_simp
    refine hK.out _ _ (Lib.hid hCB2) (fun _ => ?_)
    clear hK K
    refine wpAnyH_ready (rs := [4]) (by kernel_rfl) (by simp) (AllReadyH.cons rfl (fun K hK => ?_) AllReadyH.nil)
    rw [if_pos (by rfl)]
    refine wp_store_row 30 _ _ rfl (Wd.heap.size + 1) (cc C) rfl rfl 30 _ hY1 (by kernel_rfl) rfl (cc_one C) ?_
    have hT := twin hCB2 hY1 hY0 (by omega) (by omega) (by omega)
    refine hK.out _ _ (Lib.hid hT.1) (fun _ => ?_)
    clear hK K
    refine wpAnyH_ready (rs := [5]) (by kernel_rfl) (by simp) (AllReadyH.cons rfl (fun K hK => ?_) AllReadyH.nil)
    rw [if_pos (by rfl)]
    refine wp_store_row 30 _ _ rfl Wd.heap.size (cc C) rfl rfl 30 _ hT.2.1 (by kernel_rfl) rfl (cc_one C) ?_
    refine hK.out _ _ (Lib.hid hT.2.2.1) (fun _ => ?_)
    clear hK K
    refine wpAnyH_done (by kernel_rfl) ?_ _
    have HC4 := Lib.hid hT.2.2.1
    have HL4 := Lib.hid hT.2.2.2.1
    have HT4 := Lib.hid hT.2.2.2.2
    have HD4 := Lib.hid ((hDL2.setRow (Wd.heap.size + 1) (cc C) (fun a ha => by have := hpb a ha; omega)).setRow Wd.heap.size (cc C) (fun a ha => by have := hpb a ha; omega))
    have HB4 := Lib.hid (below_setRow (below_setRow hBB2 (show w.heap.size ≤ (Wd.heap.size + 1) by omega) (cc C)) (show w.heap.size ≤ Wd.heap.size by omega) (cc C))
    have HPP : Hid (∀ a, p = some a → a.block ≠ (Wd.heap.size + 1) ∧ a.block ≠ Wd.heap.size) := Lib.hid fun a ha => by
      have := hpb a ha
      omega
    have h23 : (Wd.heap.size + 1) ≠ Wd.heap.size := by omega
    have hB2n : B ≠ (Wd.heap.size + 1) := by omega
    have hB3n : B ≠ Wd.heap.size := by omega
    have hg2 : w.heap.size ≤ (Wd.heap.size + 1) := by omega
    have hg3 : w.heap.size ≤ Wd.heap.size := by omega
    clear hT hY0 hY1 hCB2 hDL2 hBB2 hHeld hpb
    generalize (((Wd.alloc (.cells #[.int .i64 0, .int .i64 0, .slice none 0 0, .int .u8 0, .int .u8 0, .int .u8 0, .int .u8 0, .int .u8 0, .int .u8 0, .int .u8 0, .int .u8 0, .int .u8 0, .int .u8 0, .int .u8 0, .int .u8 0, .int .u8 0, .int .u8 0, .int .u8 0, .int .u8 0, .int .i64 0, .int .i64 0, .int .i64 0, .int .i64 0, .int .i64 0, .int .i64 0, .int .i64 0] 30)).alloc (.cells #[.int .i64 0, .int .i64 0, .slice none 0 0, .int .u8 0, .int .u8 0, .int .u8 0, .int .u8 0, .int .u8 0, .int .u8 0, .int .u8 0, .int .u8 0, .int .u8 0, .int .u8 0, .int .u8 0, .int .u8 0, .int .u8 0, .int .u8 0, .int .u8 0, .int .u8 0, .int .i64 0, .int .i64 0, .int .i64 0, .int .i64 0, .int .i64 0, .int .i64 0, .int .i64 0] 30)).setRow (Wd.heap.size + 1) (cc C)).setRow Wd.heap.size (cc C) = W4 at *
    generalize Wd.heap.size + 1 = P2 at *
    generalize Wd.heap.size = P3 at *
    have z25 := block_cell (j := 25) HL4.out HC25.out
    have f25 := block_free 25 HL4.out
    have HC5 := Lib.hid (HC4.out.far 25 (.int .i64 ((nd : Int) - 1)) hB2n)
    have HL5 := Lib.hid (HQ2.out _ _ HL4.out)
    have HT5 := Lib.hid (HT4.out.far 25 (.int .i64 ((nd : Int) - 1)) (fun e => h23 e.symm))
    have HD5 := Lib.hid (HD4.out.put P2 25 (.int .i64 ((nd : Int) - 1)) (fun a ha => (HPP.out a ha).1))
    have HB5 := Lib.hid (HB4.out.setCell (p := ⟨P2, 25, none⟩) hg2 (.int .i64 ((nd : Int) - 1)))
    go_upto_region 4 with (fail)
    generalize W4.setCell ⟨P2, 25, none⟩ (.int .i64 ((nd : Int) - 1)) = W5 at *
    clear z25 f25 HC4 HL4 HT4 HD4 HB4
    have z22 := block_cell (j := 22) HT5.out HC22.out
    have z23 := block_cell (j := 23) HT5.out HC23.out
    have f23 := block_free 23 HT5.out
    have HC6 := Lib.hid (HC5.out.far 23 (.int .i64 se) hB3n)
    have HL6 := Lib.hid (HL5.out.far 23 (.int .i64 se) h23)
    have HT6 := Lib.hid (HQ3.out _ _ HT5.out)
    have HD6 := Lib.hid (HD5.out.put P3 23 (.int .i64 se) (fun a ha => (HPP.out a ha).2))
    have HB6 := Lib.hid (HB5.out.setCell (p := ⟨P3, 23, none⟩) hg3 (.int .i64 se))
    go_upto_region 5 with (fail)
    generalize W5.setCell ⟨P3, 23, none⟩ (.int .i64 se) = W6 at *
    clear z22 z23 f23 HC5 HL5 HT5 HD5 HB5
    go_wp2_with (first | ((with_reducible refine wpList_load_cf HC6.out ?_ ?_); rfl))
    refine (HK1.out _ HD6.out).mono ?_
    rintro e W7 ⟨rfl, h⟩
    have HL7 := Lib.hid (HL6.out.later h)
    have HT7 := Lib.hid (HT6.out.later h)
    have HD7 := Lib.hid (HD6.out.later h)
    have HB7 := Lib.hid (HB6.out.trans (h.mono HB6.out.size))
    clear h HC6 HL6 HT6 HD6 HB6
    go_wp2_with (first | ((with_reducible refine wpList_load_cfg HL7.out ?_ ?_ ?_); rfl; rfl))
    refine (HK2.out _ HD7.out).mono ?_
    rintro e W8 ⟨rfl, h⟩
    have HT8 := Lib.hid (HT7.out.later h)
    have HD8 := Lib.hid (HD7.out.later h)
    have HB8 := Lib.hid (HB7.out.trans (h.mono HB7.out.size))
    clear h HL7 HT7 HD7 HB7
    go_wp2_with (first | ((with_reducible refine wpList_load_cfg HT8.out ?_ ?_ ?_); rfl; rfl))
    refine (HK3.out _ HD8.out).mono ?_
    rintro e W9 ⟨rfl, h⟩
    have HB9 := Lib.hid (HB8.out.trans (h.mono HB8.out.size))
    clear h HT8 HD8 HB8
    go_wp2_with fail
    refine (works6_any _).mono ?_
    rintro e W10 ⟨rfl, h⟩
    have HB10 := Lib.hid (HB9.out.trans (h.mono HB9.out.size))
    clear h
    go_wp2_with fail
    go_ret
    exact ⟨rfl, HB10.out⟩

set_option maxRecDepth 100000 in
theorem lifted (os : Os) (started : os.Started) (H : Type) (enc : TypeId × Value → H) :
    ReturnsInHanded {} Try.checked os 6 .any (Rows.confSmallSpec.pre6 enc Try.prog Try.f6 Rows.confSmallRow.domain false) (Rows.confSmallSpec.post enc Try.prog Try.f6 false true false false) := by
  refine returnsInHanded_of_change (C := Try.checked) own started (by kernel_rfl) Try.func6
    (ChangeSpec.witness6 (enc := enc) (C := Try.checked) false ⟨#[], #[.agg #[.int .u8 0, .int .u8 0, .int .u8 0, .int .u16 0, .int .u8 0, .int .u8 0, .int .u8 0, .int .u8 0, .int .u8 0, .int .u8 0, .int .u16 0, .int .u8 0]], []⟩ 8 (by kernel_rfl) (by kernel_rfl) (by kernel_rfl) (by kernel_rfl)) ?_
  intro W base args ds gs before hval0 hW hcnd _
  have hval : ∀ (j : Nat) t v, Try.f6.params[j]? = some t → args[j]? = some v → Value.okWide Try.prog W .any base t v := hval0
  have hW' := hW
  obtain ⟨p, q, hA0, hV, rfl, hfz, hnd⟩ := hW
  have hA : DataW.TrodAll enc Try.prog W 0 (fun _ => true) true Try.f6.params.toList args.toList ds p := hA0
  rw [Try.params6] at hA hval
  obtain ⟨v0, vs0, d0, ds0, p0, q0, hargs, rfl, rfl, h0, r0⟩ := trodAll_cons hA
  obtain ⟨rfl, rfl, rfl⟩ := trodAll_nil r0
  obtain rfl : args = #[v0] := by cases args; simp_all
  obtain ⟨rfl, rfl⟩ := trodVars_none hV
  have k0 := h0
  have lt0 : ∀ x ∈ p0, x.block < W.heap.size := by obtain ⟨m, hm⟩ := k0; exact DataW.trod_lt m _ _ _ hm
  obtain ⟨a0, rfl, w0⟩ := open_small (hval 0 45 v0 rfl rfl) h0
  clear hA0 hval0
  refine (walk a0 W w0).mono fun e W' ⟨he, bel⟩ => ?_
  subst he
  exact ⟨_, rfl, _, _, _, [], _, [], hW', trodAll_mk1 (shut_bool Try.underlying4 _), (trodAll_cons_mk (Below.trod laidOut (by kernel_rfl) (of_decide_eq_true (by kernel_rfl)) k0 bel lt0) trodAll_mk0), rfl, bel.frame _, fun h => by cases h⟩

theorem over : Rows.confSmallRow.holds Try.pinned (OpenSpec.ofChange Rows.confSmallSpec) :=
  OpenClaim.holds_of_wide 6 Try.f6 rfl rfl rfl rfl rfl rfl rfl ⟨rfl, rfl, rfl, rfl, rfl⟩ rfl rfl rfl rfl rfl (by kernel_rfl) Try.func6 (by kernel_rfl)
    (of_decide_eq_true (by kernel_rfl)) (by unfold Func.isWrapper; first | (rw [if_pos (by decide +kernel)]; kernel_rfl) | (rw [if_neg (by decide +kernel)]; exact ⟨rfl, rfl⟩))
    (fun os started H enc _ => lifted os started H enc)

theorem proved : Rows.ConfSmallSaid := over
#print axioms proved
end Go.Proofs.Ythkeefdapnkgeaa.confSmall
