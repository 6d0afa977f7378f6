/- A plain configuration may be; the chapter's example. -/
import Derived.Test.YthkeefdapnkgeaaConfPlains
namespace Go.Proofs.Ythkeefdapnkgeaa
open Go.RowKit Go.ChangeShapes Go.WideShapes
set_option linter.unusedVariables false
set_option linter.unusedSimpArgs false

theorem nb_congr (f g : Nat → Int) (n : Nat) (k : Int) (h : ∀ j, j < n → f j = g j) : nb f n k = nb g n k := by
  unfold nb
  rw [Bool.eq_iff_iff]
  simp only [List.any_eq_true, List.mem_range]
  constructor
  · rintro ⟨j, hj, e⟩
    exact ⟨j, hj, by rw [← h j hj]; exact e⟩
  · rintro ⟨j, hj, e⟩
    exact ⟨j, hj, by rw [h j hj]; exact e⟩
theorem nbs_congr (f g : Nat → Int) (n : Nat) (h : ∀ j, j < n → f j = g j) : nbs f n = nbs g n := by
  unfold nbs
  rw [nb_congr f g n 0 h, nb_congr f g n 1 h, nb_congr f g n 2 h, nb_congr f g n 3 h]
theorem prK_at (w s i j : Nat) (hi : i < s) (hj : j < w) (hw : w ≤ 4) : prK w s 0 (i * 4 + j) = j := by
  unfold prK
  rw [if_pos (by omega), show (i * 4 + j) % 4 = j by omega]
theorem nbs_id (w : Nat) (h1 : 1 ≤ w) (h4 : w ≤ 4) : nbs (fun j => (j : Int)) w = alls w := by
  rcases (by omega : w = 1 ∨ w = 2 ∨ w = 3 ∨ w = 4) with rfl | rfl | rfl | rfl <;> rfl
theorem pcf_ranked (s w : Nat) (p : Option Addr) (n c : Nat) (bs : Int) (hs : s ≤ 4) (h1 : 1 ≤ w) (h4 : w ≤ 4) : Ranked (pcf s w p n c (prK w s 0) bs) s w :=
  ⟨rfl, rfl, hs, h4, fun j _ => by show 0 ≤ prK w s 0 j ∧ prK w s 0 j ≤ 255; unfold prK; split <;> omega, fun i hi => (nbs_congr _ (fun j => (j : Int)) w fun j hj => prK_at w s i j hi hj h4).trans (nbs_id w h1 h4)⟩
theorem needN_le (n : Nat) (hn : n ≤ 80) : needN n ≤ 118 := by
  unfold needN piecesN
  omega
theorem pcf_in (s w : Nat) (p : Option Addr) (n c : Nat) (f : Nat → Int) (hs : 1 ≤ s ∧ s ≤ 4) (hw : 1 ≤ w ∧ w ≤ 4) (hn : n ≤ 80) : CfIn (pcf s w p n c f (needN n : Nat)) := by
  have := needN_le n hn
  have h2 : 1 ≤ needN n := by unfold needN; omega
  constructor <;> simp only [pcf] <;> omega
theorem plain_getD (s w lo hi : Int) (j : Nat) (hj : j < (allQ s w 5).length) : (plainL s w lo hi).getD j d0 = plainD lo hi ((allQ s w 5).getD j (0, 0, 0)) := by
  unfold plainL
  rw [List.getD, List.getElem?_map, List.getD, List.getElem?_eq_getElem hj]
  rfl
theorem plain_len (s w lo hi : Int) : (plainL s w lo hi).length = (allQ s w 5).length := List.length_map ..
theorem pcf_fields (s w : Nat) (p : Option Addr) (n c : Nat) (f : Nat → Int) (bs lo hi : Int) (hs : 1 ≤ s ∧ s ≤ 4) (hw : 1 ≤ w ∧ w ≤ 4) (hn : n = (plainL s w lo hi).length) (h0 : 0 ≤ lo) (h1 : lo ≤ hi) : Fields (pcf s w p n c f bs) s w (plainL s w lo hi) := by
  have hl := plain_len s w lo hi
  refine ⟨hs.1, hs.2, hw.1, hw.2, rfl, rfl, hn.trans hl, fun j hj => ?_, fun j hj => ?_⟩
  · rw [plain_getD _ _ _ _ _ (by rw [← hl, ← hn]; exact hj)]
    rfl
  · rw [plain_getD _ _ _ _ _ (by rw [← hl, ← hn]; exact hj)]
    show 0 ≤ (if _ then lo else 0) ∧ (if _ then lo else 0) ≤ hi
    split <;> omega
theorem low_ge (i : Int) : 0 ≤ lowI i := by
  unfold lowI
  split <;> omega
theorem high_ge (i h : Int) : i ≤ highI i h := by
  unfold highI
  split <;> omega
/-- A plain configuration may be. -/
theorem pcheck_any (s w : Nat) (hs : 1 ≤ s ∧ s ≤ 4) (hw : 1 ≤ w ∧ w ≤ 4) (i h : Int) (p : Option Addr) (n c : Nat) (hn : n = (plainL s w (lowI i) (highI (lowI i) h)).length) (W : World) (hM : DL W p n c (plainL s w (lowI i) (highI (lowI i) h))) :
    Calls Try.prog 13 #[.agg (cc (pcf s w p n c (prK w s 0) (needN n : Nat)))] W fun e w' => e = .returned (.int .i64 0) ∧ Below W.heap.size W w' := by
  have hn80 : n ≤ 80 := by rw [hn, plain_len]; exact all_len s w hs hw
  have h := check_in (pcf s w p n c (prK w s 0) (needN n : Nat)) s w 256 _ (pcf_in s w p n c _ hs hw hn80) rfl (pcf_ranked s w p n c _ hs.2 hw.1 hw.2) (pcf_fields s w p n c _ _ _ _ hs hw hn (low_ge i) (high_ge _ h)) W hM
  have e : checkI (pcf s w p n c (prK w s 0) (needN n : Nat)) 256 = 0 := by
    unfold checkI
    rw [need_pcf]
    show (if (65536 : Int) ≤ 256 then (5 : Int) else if ((needN n : Nat) : Int) < (needN n : Nat) then 4 else 0) = 0
    rw [if_neg (show ¬ ((65536 : Int) ≤ 256) by omega), if_neg (show ¬ ((needN n : Nat) : Int) < (needN n : Nat) by omega)]
  rw [e] at h
  exact h
theorem heads_four : piecesN 4 16 = 1 := by kernel_rfl
theorem plain_four : (plainL ((1 : Nat) : Int) ((1 : Nat) : Int) (lowI 5) (highI (lowI 5) 9)).length = 4 := by kernel_rfl
theorem area_pcf (s w : Nat) (p : Option Addr) (n c : Nat) (f : Nat → Int) (bs : Int) : areaN (pcf s w p n c f bs) 256 = piecesN n 16 + 51 := by
  show piecesN n 16 + piecesN (mostI 8 32).toNat 256 = _
  rw [most_max, pieces_max]
set_option maxHeartbeats 4000000 in
theorem works6_any (W : World) : Calls Try.prog 9 #[] W fun e w' => e = .returned (.bool true) ∧ Below W.heap.size W w' := by
  have HP := Lib.hid fun W => plain_any 1 1 5 9 1 1 rfl rfl ⟨by omega, by omega⟩ ⟨by omega, by omega⟩ W
  have HM := Lib.hid fun W => most_any 8 32 W
  rw [show mostI 8 32 = 12932 by decide] at HM
  have HPC := Lib.hid fun p n c => pcheck_any 1 1 ⟨by omega, by omega⟩ ⟨by omega, by omega⟩ 5 9 p n c
  have HH := Lib.hid fun (p : Option Addr) (c : Nat) W => heads_any (pcf 1 1 p 4 c (prK 1 1 0) (needN 4 : Nat)) 256 rfl (by omega) (by omega) (by show 4 ≤ 1000000; omega) W
  have HA := Lib.hid fun (p : Option Addr) (c : Nat) W => area_any (pcf 1 1 p 4 c (prK 1 1 0) (needN 4 : Nat)) 256 rfl (by omega) (by omega) (by show 4 ≤ 1000000; omega) W
  have HN := Lib.hid fun (p : Option Addr) (c : Nat) W => need_any (pcf 1 1 p 4 c (prK 1 1 0) (needN 4 : Nat)) 256 rfl (by omega) (by omega) (by show 4 ≤ 1000000; omega) W
  simp only [need_pcf, area_pcf] at HN HA
  have HH' : Hid (∀ (p : Option Addr) (c : Nat) (W : World), Calls Try.prog 19 #[.agg (cc (pcf 1 1 p 4 c (prK 1 1 0) (needN 4 : Nat)))] W fun e w' => e = .returned (.int .i64 1) ∧ Below W.heap.size W w') := Lib.hid fun p c W => by
    have h := HH.out p c W
    rw [show piecesN (pcf 1 1 p 4 c (prK 1 1 0) (needN 4 : Nat)).fn (256 / 16) = 1 from heads_four] at h
    exact h
  have HA' : Hid (∀ (p : Option Addr) (c : Nat) (W : World), Calls Try.prog 20 #[.agg (cc (pcf 1 1 p 4 c (prK 1 1 0) (needN 4 : Nat)))] W fun e w' => e = .returned (.int .i64 52) ∧ Below W.heap.size W w') := Lib.hid HA.out
  have HN' : Hid (∀ (p : Option Addr) (c : Nat) (W : World), Calls Try.prog 21 #[.agg (cc (pcf 1 1 p 4 c (prK 1 1 0) (needN 4 : Nat)))] W fun e w' => e = .returned (.int .i64 106) ∧ Below W.heap.size W w') := Lib.hid HN.out
  clear HH HA HN
  go_enter Try.func9, Try.ntmps9
  go_wp2_with fail
  refine (HP.out _).mono ?_
  rintro e W1 ⟨p, c, n, hn, rfl, hd, hb, hp⟩
  have hpc := fun W => HPC.out p n c hn W
  rw [plain_four] at hn
  subst hn
  have HPC' := Lib.hid hpc
  have HC2 := Lib.hid (CB.new W1 (pcf 1 1 p 4 c (prK 1 1 0) (needN 4 : Nat)))
  have HD2 := Lib.hid (hd.later ((Below.refl _ _).alloc (Nat.le_refl _) (.cells (cc (pcf 1 1 p 4 c (prK 1 1 0) (needN 4 : Nat))) 30)))
  have HB2 := Lib.hid (hb.alloc hb.size (.cells (cc (pcf 1 1 p 4 c (prK 1 1 0) (needN 4 : Nat))) 30))
  have HH1 := Lib.hid (HH'.out p c)
  have HA1 := Lib.hid (HA'.out p c)
  have HN1 := Lib.hid (HN'.out p c)
  have HCX : Hid ((cc (pcf 1 1 p 4 c (prK 1 1 0) (needN 4 : Nat)))[2]? = some (.slice p 4 c)) := Lib.hid rfl
  clear HP HPC hpc hd hb hp HH' HA' HN'
  generalize pcf 1 1 p 4 c (prK 1 1 0) (needN 4 : Nat) = C at *
  go_upto_region 2 with ((with_reducible refine wpList_store_new (C := C) ?_ ?_ ?_ ?_); rfl; rfl; rfl)
  generalize W1.alloc (.cells (cc C) 30) = W2 at *
  generalize W1.heap.size = B at *
  go_wp2_with (first | ((with_reducible refine wpList_load_cf HC2.out ?_ ?_); rfl))
  refine (HPC'.out _ HD2.out).mono ?_
  rintro e W3 ⟨rfl, h⟩
  have HC3 := Lib.hid (HC2.out.later h)
  have HB3 := Lib.hid (HB2.out.trans (h.mono HB2.out.size))
  have z2 := block_cell (j := 2) HC3.out HCX.out
  clear h HC2 HB2 HD2 HPC'
  go_wp2_with (first | ((with_reducible refine wpList_load_cfg HC3.out ?_ ?_ ?_); rfl; rfl))
  refine (HH1.out _).mono ?_
  rintro e W4 ⟨rfl, h⟩
  have HC4 := Lib.hid (HC3.out.later h)
  have HB4 := Lib.hid (HB3.out.trans (h.mono HB3.out.size))
  clear h HC3 HB3 z2 HH1
  go_wp2_with fail
  refine (HM.out _).mono ?_
  rintro e W5 ⟨rfl, rfl⟩
  go_wp2_with (first | ((with_reducible refine wpList_load_cfg HC4.out ?_ ?_ ?_); rfl; rfl))
  refine (HA1.out _).mono ?_
  rintro e W6 ⟨rfl, h⟩
  have HC6 := Lib.hid (HC4.out.later h)
  have HB6 := Lib.hid (HB4.out.trans (h.mono HB4.out.size))
  clear h HC4 HB4 HA1
  go_wp2_with (first | ((with_reducible refine wpList_load_cfg HC6.out ?_ ?_ ?_); rfl; rfl))
  refine (HN1.out _).mono ?_
  rintro e W7 ⟨rfl, h⟩
  have HB7 := Lib.hid (HB6.out.trans (h.mono HB6.out.size))
  clear h
  go_wp2_with fail
  go_ret
  exact ⟨rfl, HB7.out⟩
end Go.Proofs.Ythkeefdapnkgeaa
