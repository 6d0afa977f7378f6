import Derived.Test.YtfdgnniicjdjdaaGreatDoorPr36
namespace Go.Proofs.YtfdgnniicjdjdaaGreatDoor
open Go.RowKit Go.ChangeShapes Go.WideShapes
set_option linter.unusedVariables false
set_option linter.unusedSimpArgs false
set_option maxRecDepth 10000
set_option maxHeartbeats 16000000 in
theorem rrec_dec4 (p : Option Addr) (n c : Nat) (Bs : List Nat) (W : World) (hw : Words W) (hS : Sl W p n c Bs) (hcm : c ≤ maxLen) (hk : (((numR ((0, Bs) : St) 1).2 : Nat) : Int) = 4) : Calls Tryz.prog 50 #[.slice p n c] W (GivesXr W (decX Bs)) := by
 obtain ⟨R, w00, w0, hR, hw00, hs00, hx00, hw0, hQ0⟩ := rrd_start p n c Bs W hS hcm
 have HW00 := Lib.hid hw00
 have HS00 := Lib.hid hs00
 have HX00 := Lib.hid hx00
 have HW0 := Lib.hid hw0
 have HQ0 := Lib.hid hQ0
 have HRE := Lib.hid hR
 have HWD := Lib.hid hw
 have HBY : Hid (∀ y ∈ Bs, y < 256) := Lib.hid hS.lt
 clear hw00 hs00 hx00 hw0 hQ0 hR hw hS hcm
 obtain ⟨R0, hR0⟩ : ∃ Q, numR ((0, Bs) : St) 1 = Q := ⟨_, rfl⟩
 have hn := pgnum_any HQ0.out.z 1 (by omega)
 have hf := byte_lt HQ0.out.z
 have hz0 := err_0 (Bs := Bs) (by rw [hk]; rfl)
 rw [hR0] at hz0
 have HZ0 := Lib.hid hz0
 clear hz0
 rw [hR0] at hn hf hk
 have HR0 := Lib.hid hR0
 have hx0 : IntKind.u8.wrap ((R0.2 : Nat) : Int) = (R0.2 : Nat) := u8_keep hf
 rw [hk] at hn hx0
 have HKK := Lib.hid hk
 clear hf hR0 hk
 go_enter Tryz.func50, Tryz.ntmps50
 go_upto_region 2 with (fail)
 rw [HW00.out, HRE.out]
 go_upto_region 3 with ((try rw [HS00.out]); (with_reducible refine wpList_store_rc rz HX00.out ?_ ?_ ?_); rfl; rfl; rw [HW0.out])
 go_wp2_with fail
 refine hn.mono ?_
 rintro e y0 ⟨rfl, hz, hc⟩
 have HQb := Lib.hid (HQ0.out.low hz hc)
 clear hz hc hn
 obtain ⟨cy, cf⟩ := HQb.out.cx (j := 0) (v := .int .u8 0) rfl
 go_upto_region 4 with (fail)
 clear cy cf hx0
 have hq := HQb.out.put 0 (.int .u8 4) (rm 4 0 0 0 false 0 0 0 0 0) rfl
 generalize y0.setCell ⟨R + 2, 0, none⟩ (.int .u8 4) = w1 at *
 have HQ1 := Lib.hid hq
 clear hq HQb HQ0 HW00 HS00 HX00 HW0
 have x1 := HQ1.out.z.err
 rw [HZ0.out] at x1
 have c0 := (HQ1.out.cx (j := 0) (v := .int .u8 4) rfl).1
 go_wp2_with fail
 clear x1
 have hn := pgnum_any HQ1.out.z 4 (by omega)
 obtain ⟨Qtx, hQtx⟩ : ∃ Q, numR R0.1 4 = Q := ⟨_, rfl⟩
 have hf := num4_lt HQ1.out.z
 rw [hQtx] at hn hf
 have hxtx : IntKind.u32.wrap ((Qtx.2 : Nat) : Int) = (Qtx.2 : Nat) := u32_keep hf
 clear hf
 have HQtx := Lib.hid hQtx
 clear hQtx
 refine hn.mono ?_
 rintro e y2 ⟨rfl, hz, hc⟩
 have HQb := Lib.hid (HQ1.out.low hz hc)
 clear hz hc hn HQ1 c0
 obtain ⟨cy, cf⟩ := HQb.out.cx (j := 2) (v := .int .u32 0) rfl
 go_upto_region 10 with (fail)
 clear cy cf hxtx
 have hq := HQb.out.put 2 (.int .u32 ((Qtx.2 : Nat) : Int)) (rm 4 0 ((Qtx.2 : Nat) : Int) 0 false 0 0 0 0 0) rfl
 generalize y2.setCell ⟨R + 2, 2, none⟩ (.int .u32 ((Qtx.2 : Nat) : Int)) = w2 at *
 have HQ2 := Lib.hid hq
 clear hq HQb
 have c0 := (HQ2.out.cx (j := 0) (v := .int .u8 4) rfl).1
 obtain ⟨DD, hDD⟩ : ∃ D : Rdd, D = ⟨Qtx.1, { noX with k := 4, sg := 0, tx := ((Qtx.2 : Nat) : Int), st := 0, cp := false, key := (0, 0, 0), d := 0, o := 0 }, 0⟩ := ⟨_, rfl⟩
 have HRX : Hid (rdX 4 R0.1 = DD) := Lib.hid (by rw [hDD]; simp [rdX, rd4, keyR, HQtx.out, noX])
 have HED : Hid (errD DD = Qtx.1.1) := Lib.hid (by rw [hDD]; rfl)
 have HST : Hid (DD.st.2 = Qtx.1.2) := Lib.hid (by rw [hDD])
 have HXX : Hid ((rm 4 0 ((Qtx.2 : Nat) : Int) 0 false 0 0 0 0 0).x [] [] [] = DD.rx) := Lib.hid (by rw [hDD]; rfl)
 clear hDD
 have HKO : Hid (kOk 4 = true) := Lib.hid rfl
 have HDX := Lib.hid (decX_ok2 HR0.out HKK.out HKO.out HRX.out)
 have x1 := HQ2.out.z.err
 by_cases he9 : Qtx.1.1 = 0
 case neg =>
  have d9 : (Qtx.1.1 != 0) = true := by simpa using he9
  have hq9 : Hid (Qtx.1.1 ≠ 0) := Lib.hid he9
  obtain ⟨pr, nr, cr, hbx, hpr⟩ := HQ2.out.z.box
  have HQd := Lib.hid (HQ2.out.later (show Below w2.heap.size w2 w2.drew from (Below.refl _ _).drew))
  have HBX : Hid (w2.drew.heap[R + 1]? = some (.cells #[.slice pr nr cr, .int .i64 Qtx.1.1] 162 (0, 0))) := Lib.hid hbx
  clear he9 hbx hpr
  have HRF : Hid (RB (w2.drew.setRow R (rcs rz)) R rz) := Lib.hid (HQd.out.res.set _)
  have HG : Hid (GivesXr W (decX Bs) (.returned (.tuple #[.agg zr, .int .i64 Qtx.1.1])) (w2.drew.setRow R zr)) := Lib.hid (by
   have hp : decX Bs = (Qtx.1.1, noX) := by
    rw [HDX.out, if_pos (by rw [rdE_err (by rw [HED.out]; exact hq9.out), HED.out]; exact hq9.out), rdE_err (by rw [HED.out]; exact hq9.out), HED.out]
   rw [hp]
   exact ⟨rz, [], [], [], rfl, rfl, rz_m _, below_setRow HQd.out.below HQd.out.base zr, nw_rz _⟩)
  go_wp2_with fail
  refine wp_region_held_drew (S := fun w' => Hid (w'.heap[R + 1]? = some (.cells #[.slice pr nr cr, .int .i64 Qtx.1.1] 162 (0, 0)))) (by kernel_rfl) HBX (fun hHeld => ?_)
  refine wpAnyH_take (i := 0) (oi := ⟨some 113, _, _, _, _, _⟩) (v := .agg zr) rfl (by kernel_rfl) (by kernel_rfl) (by kernel_rfl) (fun _ _ _ h => h) (Or.inl ⟨by rfl, fun w' hw' => ?_⟩) (by assumption) ?_
  · clear hHeld
    go_simp
  simp only [Act.put, List.setIfInBounds_toArray, List.set_cons_zero, List.set_cons_succ]
  refine wpAnyH_take (i := 1) (oi := ⟨some 114, _, _, _, _, _⟩) (v := .pointer (some ⟨R + 1, 0, none⟩)) rfl (by kernel_rfl) (by kernel_rfl) (by kernel_rfl) (fun _ _ _ h => h) (Or.inl ⟨by rfl, fun w' hw' => ?_⟩) (by assumption) ?_
  · clear hHeld
    go_simp
  simp only [Act.put, List.setIfInBounds_toArray, List.set_cons_zero, List.set_cons_succ]
  refine wpAnyH_take (i := 2) (oi := ⟨some 115, _, _, _, _, _⟩) (v := .pointer (some ⟨R + 1, 0, none⟩)) rfl (by kernel_rfl) (by kernel_rfl) (by kernel_rfl) (fun _ _ _ h => h) (Or.inl ⟨by rfl, fun w' hw' => ?_⟩) (by assumption) ?_
  · clear hHeld
    go_simp
  simp only [Act.put, List.setIfInBounds_toArray, List.set_cons_zero, List.set_cons_succ]
  refine wpAnyH_take (i := 3) (oi := ⟨some 116, _, _, _, _, _⟩) (v := .pointer (some ⟨R + 1, 1, none⟩)) rfl (by kernel_rfl) (by kernel_rfl) (by kernel_rfl) (fun _ _ _ h => h) (Or.inl ⟨by rfl, fun w' hw' => ?_⟩) (by assumption) ?_
  · clear hHeld
    go_simp
  simp only [Act.put, List.setIfInBounds_toArray, List.set_cons_zero, List.set_cons_succ]
  refine wpAnyH_take (i := 4) (oi := ⟨some 117, _, _, _, _, _⟩) (v := .int .i64 Qtx.1.1) rfl (by kernel_rfl) (by kernel_rfl) (by kernel_rfl) (fun _ _ _ h => h) (Or.inl ⟨by rfl, fun w' hw' => ?_⟩) (by assumption) ?_
  · have g1 := block_cell (j := 1) (v := .int .i64 Qtx.1.1) hw'.out rfl
    clear hHeld
    go_simp
  simp only [Act.put, List.setIfInBounds_toArray, List.set_cons_zero, List.set_cons_succ]
  generalize w2.drew = Wd at *
  refine wpAnyH_ready (rs := [5]) (by kernel_rfl) (by simp) (AllReadyH.cons rfl (fun K hK => ?_) AllReadyH.nil)
  rw [if_pos (by rfl)]
  refine wp_store_row 51 _ _ rfl R zr rfl rfl 51 _ HQd.out.res (by kernel_rfl) rfl (rcs_one rz) ?_
  have HB2 : Hid ((Wd.setRow R zr).heap[R + 1]? = some (.cells #[.slice pr nr cr, .int .i64 Qtx.1.1] 162 (0, 0))) := Lib.hid ((setRow_other _ _ _ _ (by omega)).trans HBX.out)
  refine hK.out _ _ HB2 (fun hHeld2 => ?_)
  clear hK K hHeld
  have hHeld := hHeld2
  clear hHeld2
  (try simp only [Act.put, List.setIfInBounds_toArray, List.set_cons_zero, List.set_cons_succ])
  refine wpAnyH_take (i := 6) (oi := ⟨some 3, _, _, _, _, _⟩) (v := .int .i64 Qtx.1.1) rfl (by kernel_rfl) (by kernel_rfl) (by kernel_rfl) (fun _ _ _ h => h) (Or.inl ⟨by rfl, fun w' hw' => ?_⟩) (by assumption) ?_
  · clear hHeld
    go_simp
  simp only [Act.put, List.setIfInBounds_toArray, List.set_cons_zero, List.set_cons_succ]
  refine wpAnyH_done (by kernel_rfl) ?_ _
  clear hHeld
  (try simp only [Exit.inBlock, Exit.then])
  go_wp2_with fail
  refine bodyPost_ret (v := .tuple #[.agg zr, .int .i64 Qtx.1.1]) ?_ rfl HG.out
  exact results_rc rfl _ _ R rz _ rfl rfl HRF.out
 have d9 : (Qtx.1.1 != 0) = false := by simp [he9]
 obtain ⟨pr, nr, cr, hbx, hpr⟩ := HQ2.out.z.box
 have hln := (hpr he9).1.len
 rw [he9] at hbx
 have HLN := Lib.hid hln
 have HZ9 : Hid (errD DD = 0) := Lib.hid (HED.out.trans he9)
 have b0 : w2.cell? ⟨R + 1, 0, none⟩ = some (.slice pr nr cr) := block_cell hbx rfl
 have b1 : w2.cell? ⟨R + 1, 1, none⟩ = some (.int .i64 0) := block_cell hbx rfl
 clear hbx hpr hln x1
 rw [he9] at d9
 clear he9
 by_cases hnr : 0 < nr
 case pos =>
  have hd : decide ((0 : Int) < (nr : Int)) = true := decide_eq_true (by omega)
  have hdn : decide (0 < nr) = true := decide_eq_true hnr
  have HNR := Lib.hid hnr
  clear hnr
  have HRF : Hid (RB (w2.setRow R (rcs rz)) R rz) := Lib.hid (HQ2.out.res.set _)
  have HG : Hid (GivesXr W (decX Bs) (.returned (.tuple #[.agg zr, .int .i64 8])) (w2.setRow R zr)) := Lib.hid (by
   have hp : decX Bs = (8, noX) := by
    have h8 := rdE_long HZ9.out (by rw [HST.out, HLN.out]; exact HNR.out)
    rw [HDX.out, if_pos (by rw [h8]; decide), h8]
   rw [hp]
   exact ⟨rz, [], [], [], rfl, rfl, rz_m _, below_setRow HQ2.out.below HQ2.out.base zr, nw_rz _⟩)
  go_wp2_with ((with_reducible refine wpList_store_rc rz HQ2.out.res ?_ ?_ ?_); rfl; rfl)
  (try simp only [Exit.inBlock, Exit.then])
  refine bodyPost_ret (v := .tuple #[.agg zr, .int .i64 8]) ?_ rfl HG.out
  exact results_rc rfl _ _ R rz _ rfl rfl HRF.out
 have hd : decide ((0 : Int) < (nr : Int)) = false := decide_eq_false (by omega)
 have hdn : decide (0 < nr) = false := decide_eq_false hnr
 have HNR := Lib.hid hnr
 clear hnr
 have h0 : rdE DD = 0 := rdE_end HZ9.out (by rw [HST.out, HLN.out]; exact HNR.out)
 have HDY : Hid (decX Bs = if goodX DD.rx = true then (0, DD.rx) else (8, noX)) := Lib.hid (by rw [HDX.out, if_neg (fun h => h h0)])
 have HMM := Lib.hid ((rm_lists 4 0 ((Qtx.2 : Nat) : Int) 0 false 0 0 0 0 0 w2))
 have hokk := rdX_ok (k := 4) HKO.out (S := R0.1) (by rw [← HR0.out]; exact numR_bytes (S := (0, Bs)) HBY.out 1)
 rw [HRX.out, ← HXX.out] at hokk
 obtain ⟨hok, hs1, hs2, hs3⟩ := hokk
 have hgd := rrec_good (rm 4 0 ((Qtx.2 : Nat) : Int) 0 false 0 0 0 0 0) [] [] [] w2 HMM.out hok (of_lists3 HMM.out ⟨hs1, hs2, hs3⟩)
 clear h0 hok hs1 hs2 hs3
 go_wp2_with (first | ((with_reducible refine wpList_load_rcg HQ2.out.x ?_ ?_ ?_); rfl; rfl))
 refine hgd.mono ?_
 rintro e w90 ⟨rfl, hb90⟩
 have HQ90 := Lib.hid (HQ2.out.later hb90)
 have HM90 := Lib.hid (HMM.out.later hb90)
 clear hb90 hgd b0 b1
 cases hg : goodX ((rm 4 0 ((Qtx.2 : Nat) : Int) 0 false 0 0 0 0 0).x [] [] [])
 case false =>
  have HRF : Hid (RB (w90.setRow R (rcs rz)) R rz) := Lib.hid (HQ90.out.res.set _)
  have HG : Hid (GivesXr W (decX Bs) (.returned (.tuple #[.agg zr, .int .i64 8])) (w90.setRow R zr)) := Lib.hid (by
   have hp : decX Bs = (8, noX) := by
    rw [HDY.out, ← HXX.out, if_neg (by rw [hg]; decide)]
   rw [hp]
   exact ⟨rz, [], [], [], rfl, rfl, rz_m _, below_setRow HQ90.out.below HQ90.out.base zr, nw_rz _⟩)
  go_wp2_with ((with_reducible refine wpList_store_rc rz HQ90.out.res ?_ ?_ ?_); rfl; rfl)
  (try simp only [Exit.inBlock, Exit.then])
  refine bodyPost_ret (v := .tuple #[.agg zr, .int .i64 8]) ?_ rfl HG.out
  exact results_rc rfl _ _ R rz _ rfl rfl HRF.out
 have HRF : Hid (RB (w90.setRow R (rcs (rm 4 0 ((Qtx.2 : Nat) : Int) 0 false 0 0 0 0 0))) R (rm 4 0 ((Qtx.2 : Nat) : Int) 0 false 0 0 0 0 0)) := Lib.hid (HQ90.out.res.set _)
 have HG : Hid (GivesXr W (decX Bs) (.returned (.tuple #[.agg (rcs (rm 4 0 ((Qtx.2 : Nat) : Int) 0 false 0 0 0 0 0)), .int .i64 0])) (w90.setRow R (rcs (rm 4 0 ((Qtx.2 : Nat) : Int) 0 false 0 0 0 0 0)))) := Lib.hid (by
  have hp : decX Bs = (0, (rm 4 0 ((Qtx.2 : Nat) : Int) 0 false 0 0 0 0 0).x [] [] []) := by rw [HDY.out, ← HXX.out, if_pos hg]
  rw [hp]
  exact ⟨(rm 4 0 ((Qtx.2 : Nat) : Int) 0 false 0 0 0 0 0), [], [], [], rfl, rfl, rm_lists _ _ _ _ _ _ _ _ _ _ _, below_setRow HQ90.out.below HQ90.out.base (rcs (rm 4 0 ((Qtx.2 : Nat) : Int) 0 false 0 0 0 0 0)), nw_no _ rfl rfl rfl⟩)
 clear hg
 go_wp2_with (first | ((with_reducible refine wpList_load_rc HQ90.out.x ?_ ?_); rfl) | ((with_reducible refine wpList_store_rc (rm 4 0 ((Qtx.2 : Nat) : Int) 0 false 0 0 0 0 0) HQ90.out.res ?_ ?_ ?_); rfl; rfl))
 (try simp only [Exit.inBlock, Exit.then])
 refine bodyPost_ret (v := .tuple #[.agg (rcs (rm 4 0 ((Qtx.2 : Nat) : Int) 0 false 0 0 0 0 0)), .int .i64 0]) ?_ rfl HG.out
 exact results_rc rfl _ _ R (rm 4 0 ((Qtx.2 : Nat) : Int) 0 false 0 0 0 0 0) _ rfl rfl HRF.out
set_option maxHeartbeats 16000000 in
theorem rrec_dec5 (p : Option Addr) (n c : Nat) (Bs : List Nat) (W : World) (hw : Words W) (hS : Sl W p n c Bs) (hcm : c ≤ maxLen) (hk : (((numR ((0, Bs) : St) 1).2 : Nat) : Int) = 5) : Calls Tryz.prog 50 #[.slice p n c] W (GivesXr W (decX Bs)) := by
 obtain ⟨R, w00, w0, hR, hw00, hs00, hx00, hw0, hQ0⟩ := rrd_start p n c Bs W hS hcm
 have HW00 := Lib.hid hw00
 have HS00 := Lib.hid hs00
 have HX00 := Lib.hid hx00
 have HW0 := Lib.hid hw0
 have HQ0 := Lib.hid hQ0
 have HRE := Lib.hid hR
 have HWD := Lib.hid hw
 have HBY : Hid (∀ y ∈ Bs, y < 256) := Lib.hid hS.lt
 clear hw00 hs00 hx00 hw0 hQ0 hR hw hS hcm
 obtain ⟨R0, hR0⟩ : ∃ Q, numR ((0, Bs) : St) 1 = Q := ⟨_, rfl⟩
 have hn := pgnum_any HQ0.out.z 1 (by omega)
 have hf := byte_lt HQ0.out.z
 have hz0 := err_0 (Bs := Bs) (by rw [hk]; rfl)
 rw [hR0] at hz0
 have HZ0 := Lib.hid hz0
 clear hz0
 rw [hR0] at hn hf hk
 have HR0 := Lib.hid hR0
 have hx0 : IntKind.u8.wrap ((R0.2 : Nat) : Int) = (R0.2 : Nat) := u8_keep hf
 rw [hk] at hn hx0
 have HKK := Lib.hid hk
 clear hf hR0 hk
 go_enter Tryz.func50, Tryz.ntmps50
 go_upto_region 2 with (fail)
 rw [HW00.out, HRE.out]
 go_upto_region 3 with ((try rw [HS00.out]); (with_reducible refine wpList_store_rc rz HX00.out ?_ ?_ ?_); rfl; rfl; rw [HW0.out])
 go_wp2_with fail
 refine hn.mono ?_
 rintro e y0 ⟨rfl, hz, hc⟩
 have HQb := Lib.hid (HQ0.out.low hz hc)
 clear hz hc hn
 obtain ⟨cy, cf⟩ := HQb.out.cx (j := 0) (v := .int .u8 0) rfl
 go_upto_region 4 with (fail)
 clear cy cf hx0
 have hq := HQb.out.put 0 (.int .u8 5) (rm 5 0 0 0 false 0 0 0 0 0) rfl
 generalize y0.setCell ⟨R + 2, 0, none⟩ (.int .u8 5) = w1 at *
 have HQ1 := Lib.hid hq
 clear hq HQb HQ0 HW00 HS00 HX00 HW0
 have x1 := HQ1.out.z.err
 rw [HZ0.out] at x1
 have c0 := (HQ1.out.cx (j := 0) (v := .int .u8 5) rfl).1
 go_wp2_with fail
 clear x1
 have hn := pgnum_any HQ1.out.z 4 (by omega)
 obtain ⟨Qtx, hQtx⟩ : ∃ Q, numR R0.1 4 = Q := ⟨_, rfl⟩
 have hf := num4_lt HQ1.out.z
 rw [hQtx] at hn hf
 have hxtx : IntKind.u32.wrap ((Qtx.2 : Nat) : Int) = (Qtx.2 : Nat) := u32_keep hf
 clear hf
 have HQtx := Lib.hid hQtx
 clear hQtx
 refine hn.mono ?_
 rintro e y2 ⟨rfl, hz, hc⟩
 have HQb := Lib.hid (HQ1.out.low hz hc)
 clear hz hc hn HQ1 c0
 obtain ⟨cy, cf⟩ := HQb.out.cx (j := 2) (v := .int .u32 0) rfl
 go_upto_region 10 with (fail)
 clear cy cf hxtx
 have hq := HQb.out.put 2 (.int .u32 ((Qtx.2 : Nat) : Int)) (rm 5 0 ((Qtx.2 : Nat) : Int) 0 false 0 0 0 0 0) rfl
 generalize y2.setCell ⟨R + 2, 2, none⟩ (.int .u32 ((Qtx.2 : Nat) : Int)) = w2 at *
 have HQ2 := Lib.hid hq
 clear hq HQb
 have c0 := (HQ2.out.cx (j := 0) (v := .int .u8 5) rfl).1
 obtain ⟨DD, hDD⟩ : ∃ D : Rdd, D = ⟨Qtx.1, { noX with k := 5, sg := 0, tx := ((Qtx.2 : Nat) : Int), st := 0, cp := false, key := (0, 0, 0), d := 0, o := 0 }, 0⟩ := ⟨_, rfl⟩
 have HRX : Hid (rdX 5 R0.1 = DD) := Lib.hid (by rw [hDD]; simp [rdX, rd4, keyR, HQtx.out, noX])
 have HED : Hid (errD DD = Qtx.1.1) := Lib.hid (by rw [hDD]; rfl)
 have HST : Hid (DD.st.2 = Qtx.1.2) := Lib.hid (by rw [hDD])
 have HXX : Hid ((rm 5 0 ((Qtx.2 : Nat) : Int) 0 false 0 0 0 0 0).x [] [] [] = DD.rx) := Lib.hid (by rw [hDD]; rfl)
 clear hDD
 have HKO : Hid (kOk 5 = true) := Lib.hid rfl
 have HDX := Lib.hid (decX_ok2 HR0.out HKK.out HKO.out HRX.out)
 have x1 := HQ2.out.z.err
 by_cases he9 : Qtx.1.1 = 0
 case neg =>
  have d9 : (Qtx.1.1 != 0) = true := by simpa using he9
  have hq9 : Hid (Qtx.1.1 ≠ 0) := Lib.hid he9
  obtain ⟨pr, nr, cr, hbx, hpr⟩ := HQ2.out.z.box
  have HQd := Lib.hid (HQ2.out.later (show Below w2.heap.size w2 w2.drew from (Below.refl _ _).drew))
  have HBX : Hid (w2.drew.heap[R + 1]? = some (.cells #[.slice pr nr cr, .int .i64 Qtx.1.1] 162 (0, 0))) := Lib.hid hbx
  clear he9 hbx hpr
  have HRF : Hid (RB (w2.drew.setRow R (rcs rz)) R rz) := Lib.hid (HQd.out.res.set _)
  have HG : Hid (GivesXr W (decX Bs) (.returned (.tuple #[.agg zr, .int .i64 Qtx.1.1])) (w2.drew.setRow R zr)) := Lib.hid (by
   have hp : decX Bs = (Qtx.1.1, noX) := by
    rw [HDX.out, if_pos (by rw [rdE_err (by rw [HED.out]; exact hq9.out), HED.out]; exact hq9.out), rdE_err (by rw [HED.out]; exact hq9.out), HED.out]
   rw [hp]
   exact ⟨rz, [], [], [], rfl, rfl, rz_m _, below_setRow HQd.out.below HQd.out.base zr, nw_rz _⟩)
  go_wp2_with fail
  refine wp_region_held_drew (S := fun w' => Hid (w'.heap[R + 1]? = some (.cells #[.slice pr nr cr, .int .i64 Qtx.1.1] 162 (0, 0)))) (by kernel_rfl) HBX (fun hHeld => ?_)
  refine wpAnyH_take (i := 0) (oi := ⟨some 113, _, _, _, _, _⟩) (v := .agg zr) rfl (by kernel_rfl) (by kernel_rfl) (by kernel_rfl) (fun _ _ _ h => h) (Or.inl ⟨by rfl, fun w' hw' => ?_⟩) (by assumption) ?_
  · clear hHeld
    go_simp
  simp only [Act.put, List.setIfInBounds_toArray, List.set_cons_zero, List.set_cons_succ]
  refine wpAnyH_take (i := 1) (oi := ⟨some 114, _, _, _, _, _⟩) (v := .pointer (some ⟨R + 1, 0, none⟩)) rfl (by kernel_rfl) (by kernel_rfl) (by kernel_rfl) (fun _ _ _ h => h) (Or.inl ⟨by rfl, fun w' hw' => ?_⟩) (by assumption) ?_
  · clear hHeld
    go_simp
  simp only [Act.put, List.setIfInBounds_toArray, List.set_cons_zero, List.set_cons_succ]
  refine wpAnyH_take (i := 2) (oi := ⟨some 115, _, _, _, _, _⟩) (v := .pointer (some ⟨R + 1, 0, none⟩)) rfl (by kernel_rfl) (by kernel_rfl) (by kernel_rfl) (fun _ _ _ h => h) (Or.inl ⟨by rfl, fun w' hw' => ?_⟩) (by assumption) ?_
  · clear hHeld
    go_simp
  simp only [Act.put, List.setIfInBounds_toArray, List.set_cons_zero, List.set_cons_succ]
  refine wpAnyH_take (i := 3) (oi := ⟨some 116, _, _, _, _, _⟩) (v := .pointer (some ⟨R + 1, 1, none⟩)) rfl (by kernel_rfl) (by kernel_rfl) (by kernel_rfl) (fun _ _ _ h => h) (Or.inl ⟨by rfl, fun w' hw' => ?_⟩) (by assumption) ?_
  · clear hHeld
    go_simp
  simp only [Act.put, List.setIfInBounds_toArray, List.set_cons_zero, List.set_cons_succ]
  refine wpAnyH_take (i := 4) (oi := ⟨some 117, _, _, _, _, _⟩) (v := .int .i64 Qtx.1.1) rfl (by kernel_rfl) (by kernel_rfl) (by kernel_rfl) (fun _ _ _ h => h) (Or.inl ⟨by rfl, fun w' hw' => ?_⟩) (by assumption) ?_
  · have g1 := block_cell (j := 1) (v := .int .i64 Qtx.1.1) hw'.out rfl
    clear hHeld
    go_simp
  simp only [Act.put, List.setIfInBounds_toArray, List.set_cons_zero, List.set_cons_succ]
  generalize w2.drew = Wd at *
  refine wpAnyH_ready (rs := [5]) (by kernel_rfl) (by simp) (AllReadyH.cons rfl (fun K hK => ?_) AllReadyH.nil)
  rw [if_pos (by rfl)]
  refine wp_store_row 51 _ _ rfl R zr rfl rfl 51 _ HQd.out.res (by kernel_rfl) rfl (rcs_one rz) ?_
  have HB2 : Hid ((Wd.setRow R zr).heap[R + 1]? = some (.cells #[.slice pr nr cr, .int .i64 Qtx.1.1] 162 (0, 0))) := Lib.hid ((setRow_other _ _ _ _ (by omega)).trans HBX.out)
  refine hK.out _ _ HB2 (fun hHeld2 => ?_)
  clear hK K hHeld
  have hHeld := hHeld2
  clear hHeld2
  (try simp only [Act.put, List.setIfInBounds_toArray, List.set_cons_zero, List.set_cons_succ])
  refine wpAnyH_take (i := 6) (oi := ⟨some 3, _, _, _, _, _⟩) (v := .int .i64 Qtx.1.1) rfl (by kernel_rfl) (by kernel_rfl) (by kernel_rfl) (fun _ _ _ h => h) (Or.inl ⟨by rfl, fun w' hw' => ?_⟩) (by assumption) ?_
  · clear hHeld
    go_simp
  simp only [Act.put, List.setIfInBounds_toArray, List.set_cons_zero, List.set_cons_succ]
  refine wpAnyH_done (by kernel_rfl) ?_ _
  clear hHeld
  (try simp only [Exit.inBlock, Exit.then])
  go_wp2_with fail
  refine bodyPost_ret (v := .tuple #[.agg zr, .int .i64 Qtx.1.1]) ?_ rfl HG.out
  exact results_rc rfl _ _ R rz _ rfl rfl HRF.out
 have d9 : (Qtx.1.1 != 0) = false := by simp [he9]
 obtain ⟨pr, nr, cr, hbx, hpr⟩ := HQ2.out.z.box
 have hln := (hpr he9).1.len
 rw [he9] at hbx
 have HLN := Lib.hid hln
 have HZ9 : Hid (errD DD = 0) := Lib.hid (HED.out.trans he9)
 have b0 : w2.cell? ⟨R + 1, 0, none⟩ = some (.slice pr nr cr) := block_cell hbx rfl
 have b1 : w2.cell? ⟨R + 1, 1, none⟩ = some (.int .i64 0) := block_cell hbx rfl
 clear hbx hpr hln x1
 rw [he9] at d9
 clear he9
 by_cases hnr : 0 < nr
 case pos =>
  have hd : decide ((0 : Int) < (nr : Int)) = true := decide_eq_true (by omega)
  have hdn : decide (0 < nr) = true := decide_eq_true hnr
  have HNR := Lib.hid hnr
  clear hnr
  have HRF : Hid (RB (w2.setRow R (rcs rz)) R rz) := Lib.hid (HQ2.out.res.set _)
  have HG : Hid (GivesXr W (decX Bs) (.returned (.tuple #[.agg zr, .int .i64 8])) (w2.setRow R zr)) := Lib.hid (by
   have hp : decX Bs = (8, noX) := by
    have h8 := rdE_long HZ9.out (by rw [HST.out, HLN.out]; exact HNR.out)
    rw [HDX.out, if_pos (by rw [h8]; decide), h8]
   rw [hp]
   exact ⟨rz, [], [], [], rfl, rfl, rz_m _, below_setRow HQ2.out.below HQ2.out.base zr, nw_rz _⟩)
  go_wp2_with ((with_reducible refine wpList_store_rc rz HQ2.out.res ?_ ?_ ?_); rfl; rfl)
  (try simp only [Exit.inBlock, Exit.then])
  refine bodyPost_ret (v := .tuple #[.agg zr, .int .i64 8]) ?_ rfl HG.out
  exact results_rc rfl _ _ R rz _ rfl rfl HRF.out
 have hd : decide ((0 : Int) < (nr : Int)) = false := decide_eq_false (by omega)
 have hdn : decide (0 < nr) = false := decide_eq_false hnr
 have HNR := Lib.hid hnr
 clear hnr
 have h0 : rdE DD = 0 := rdE_end HZ9.out (by rw [HST.out, HLN.out]; exact HNR.out)
 have HDY : Hid (decX Bs = if goodX DD.rx = true then (0, DD.rx) else (8, noX)) := Lib.hid (by rw [HDX.out, if_neg (fun h => h h0)])
 have HMM := Lib.hid ((rm_lists 5 0 ((Qtx.2 : Nat) : Int) 0 false 0 0 0 0 0 w2))
 have hokk := rdX_ok (k := 5) HKO.out (S := R0.1) (by rw [← HR0.out]; exact numR_bytes (S := (0, Bs)) HBY.out 1)
 rw [HRX.out, ← HXX.out] at hokk
 obtain ⟨hok, hs1, hs2, hs3⟩ := hokk
 have hgd := rrec_good (rm 5 0 ((Qtx.2 : Nat) : Int) 0 false 0 0 0 0 0) [] [] [] w2 HMM.out hok (of_lists3 HMM.out ⟨hs1, hs2, hs3⟩)
 clear h0 hok hs1 hs2 hs3
 go_wp2_with (first | ((with_reducible refine wpList_load_rcg HQ2.out.x ?_ ?_ ?_); rfl; rfl))
 refine hgd.mono ?_
 rintro e w90 ⟨rfl, hb90⟩
 have HQ90 := Lib.hid (HQ2.out.later hb90)
 have HM90 := Lib.hid (HMM.out.later hb90)
 clear hb90 hgd b0 b1
 cases hg : goodX ((rm 5 0 ((Qtx.2 : Nat) : Int) 0 false 0 0 0 0 0).x [] [] [])
 case false =>
  have HRF : Hid (RB (w90.setRow R (rcs rz)) R rz) := Lib.hid (HQ90.out.res.set _)
  have HG : Hid (GivesXr W (decX Bs) (.returned (.tuple #[.agg zr, .int .i64 8])) (w90.setRow R zr)) := Lib.hid (by
   have hp : decX Bs = (8, noX) := by
    rw [HDY.out, ← HXX.out, if_neg (by rw [hg]; decide)]
   rw [hp]
   exact ⟨rz, [], [], [], rfl, rfl, rz_m _, below_setRow HQ90.out.below HQ90.out.base zr, nw_rz _⟩)
  go_wp2_with ((with_reducible refine wpList_store_rc rz HQ90.out.res ?_ ?_ ?_); rfl; rfl)
  (try simp only [Exit.inBlock, Exit.then])
  refine bodyPost_ret (v := .tuple #[.agg zr, .int .i64 8]) ?_ rfl HG.out
  exact results_rc rfl _ _ R rz _ rfl rfl HRF.out
 have HRF : Hid (RB (w90.setRow R (rcs (rm 5 0 ((Qtx.2 : Nat) : Int) 0 false 0 0 0 0 0))) R (rm 5 0 ((Qtx.2 : Nat) : Int) 0 false 0 0 0 0 0)) := Lib.hid (HQ90.out.res.set _)
 have HG : Hid (GivesXr W (decX Bs) (.returned (.tuple #[.agg (rcs (rm 5 0 ((Qtx.2 : Nat) : Int) 0 false 0 0 0 0 0)), .int .i64 0])) (w90.setRow R (rcs (rm 5 0 ((Qtx.2 : Nat) : Int) 0 false 0 0 0 0 0)))) := Lib.hid (by
  have hp : decX Bs = (0, (rm 5 0 ((Qtx.2 : Nat) : Int) 0 false 0 0 0 0 0).x [] [] []) := by rw [HDY.out, ← HXX.out, if_pos hg]
  rw [hp]
  exact ⟨(rm 5 0 ((Qtx.2 : Nat) : Int) 0 false 0 0 0 0 0), [], [], [], rfl, rfl, rm_lists _ _ _ _ _ _ _ _ _ _ _, below_setRow HQ90.out.below HQ90.out.base (rcs (rm 5 0 ((Qtx.2 : Nat) : Int) 0 false 0 0 0 0 0)), nw_no _ rfl rfl rfl⟩)
 clear hg
 go_wp2_with (first | ((with_reducible refine wpList_load_rc HQ90.out.x ?_ ?_); rfl) | ((with_reducible refine wpList_store_rc (rm 5 0 ((Qtx.2 : Nat) : Int) 0 false 0 0 0 0 0) HQ90.out.res ?_ ?_ ?_); rfl; rfl))
 (try simp only [Exit.inBlock, Exit.then])
 refine bodyPost_ret (v := .tuple #[.agg (rcs (rm 5 0 ((Qtx.2 : Nat) : Int) 0 false 0 0 0 0 0)), .int .i64 0]) ?_ rfl HG.out
 exact results_rc rfl _ _ R (rm 5 0 ((Qtx.2 : Nat) : Int) 0 false 0 0 0 0 0) _ rfl rfl HRF.out
set_option maxHeartbeats 16000000 in
theorem rrec_dec6 (p : Option Addr) (n c : Nat) (Bs : List Nat) (W : World) (hw : Words W) (hS : Sl W p n c Bs) (hcm : c ≤ maxLen) (hk : (((numR ((0, Bs) : St) 1).2 : Nat) : Int) = 6) : Calls Tryz.prog 50 #[.slice p n c] W (GivesXr W (decX Bs)) := by
 obtain ⟨R, w00, w0, hR, hw00, hs00, hx00, hw0, hQ0⟩ := rrd_start p n c Bs W hS hcm
 have HW00 := Lib.hid hw00
 have HS00 := Lib.hid hs00
 have HX00 := Lib.hid hx00
 have HW0 := Lib.hid hw0
 have HQ0 := Lib.hid hQ0
 have HRE := Lib.hid hR
 have HWD := Lib.hid hw
 have HBY : Hid (∀ y ∈ Bs, y < 256) := Lib.hid hS.lt
 clear hw00 hs00 hx00 hw0 hQ0 hR hw hS hcm
 obtain ⟨R0, hR0⟩ : ∃ Q, numR ((0, Bs) : St) 1 = Q := ⟨_, rfl⟩
 have hn := pgnum_any HQ0.out.z 1 (by omega)
 have hf := byte_lt HQ0.out.z
 have hz0 := err_0 (Bs := Bs) (by rw [hk]; rfl)
 rw [hR0] at hz0
 have HZ0 := Lib.hid hz0
 clear hz0
 rw [hR0] at hn hf hk
 have HR0 := Lib.hid hR0
 have hx0 : IntKind.u8.wrap ((R0.2 : Nat) : Int) = (R0.2 : Nat) := u8_keep hf
 rw [hk] at hn hx0
 have HKK := Lib.hid hk
 clear hf hR0 hk
 go_enter Tryz.func50, Tryz.ntmps50
 go_upto_region 2 with (fail)
 rw [HW00.out, HRE.out]
 go_upto_region 3 with ((try rw [HS00.out]); (with_reducible refine wpList_store_rc rz HX00.out ?_ ?_ ?_); rfl; rfl; rw [HW0.out])
 go_wp2_with fail
 refine hn.mono ?_
 rintro e y0 ⟨rfl, hz, hc⟩
 have HQb := Lib.hid (HQ0.out.low hz hc)
 clear hz hc hn
 obtain ⟨cy, cf⟩ := HQb.out.cx (j := 0) (v := .int .u8 0) rfl
 go_upto_region 4 with (fail)
 clear cy cf hx0
 have hq := HQb.out.put 0 (.int .u8 6) (rm 6 0 0 0 false 0 0 0 0 0) rfl
 generalize y0.setCell ⟨R + 2, 0, none⟩ (.int .u8 6) = w1 at *
 have HQ1 := Lib.hid hq
 clear hq HQb HQ0 HW00 HS00 HX00 HW0
 have x1 := HQ1.out.z.err
 rw [HZ0.out] at x1
 have c0 := (HQ1.out.cx (j := 0) (v := .int .u8 6) rfl).1
 go_wp2_with fail
 clear x1
 have hn := pgnum_any HQ1.out.z 4 (by omega)
 obtain ⟨Qtx, hQtx⟩ : ∃ Q, numR R0.1 4 = Q := ⟨_, rfl⟩
 have hf := num4_lt HQ1.out.z
 rw [hQtx] at hn hf
 have hxtx : IntKind.u32.wrap ((Qtx.2 : Nat) : Int) = (Qtx.2 : Nat) := u32_keep hf
 clear hf
 have HQtx := Lib.hid hQtx
 clear hQtx
 refine hn.mono ?_
 rintro e y2 ⟨rfl, hz, hc⟩
 have HQb := Lib.hid (HQ1.out.low hz hc)
 clear hz hc hn HQ1 c0
 obtain ⟨cy, cf⟩ := HQb.out.cx (j := 2) (v := .int .u32 0) rfl
 go_upto_region 10 with (fail)
 clear cy cf hxtx
 have hq := HQb.out.put 2 (.int .u32 ((Qtx.2 : Nat) : Int)) (rm 6 0 ((Qtx.2 : Nat) : Int) 0 false 0 0 0 0 0) rfl
 generalize y2.setCell ⟨R + 2, 2, none⟩ (.int .u32 ((Qtx.2 : Nat) : Int)) = w2 at *
 have HQ2 := Lib.hid hq
 clear hq HQb
 have c0 := (HQ2.out.cx (j := 0) (v := .int .u8 6) rfl).1
 go_wp2_with fail
 have hn := pgnum_any HQ2.out.z 1 (by omega)
 obtain ⟨Qka, hQka⟩ : ∃ Q, numR Qtx.1 1 = Q := ⟨_, rfl⟩
 have hf := byte_lt HQ2.out.z
 rw [hQka] at hn hf
 have hxka : IntKind.u8.wrap ((Qka.2 : Nat) : Int) = (Qka.2 : Nat) := u8_keep hf
 clear hf
 have HQka := Lib.hid hQka
 clear hQka
 refine hn.mono ?_
 rintro e y3 ⟨rfl, hz, hc⟩
 have HQb := Lib.hid (HQ2.out.low hz hc)
 clear hz hc hn HQ2 c0
 obtain ⟨cy, cf⟩ := HQb.out.cx (j := 5) (v := .int .u8 0) rfl
 go_upto_region 15 with (fail)
 clear cy cf hxka
 have hq := HQb.out.put 5 (.int .u8 ((Qka.2 : Nat) : Int)) (rm 6 0 ((Qtx.2 : Nat) : Int) 0 false ((Qka.2 : Nat) : Int) 0 0 0 0) rfl
 generalize y3.setCell ⟨R + 2, 5, none⟩ (.int .u8 ((Qka.2 : Nat) : Int)) = w3 at *
 have HQ3 := Lib.hid hq
 clear hq HQb
 have c0 := (HQ3.out.cx (j := 0) (v := .int .u8 6) rfl).1
 go_wp2_with fail
 have hn := pgnum_any HQ3.out.z 1 (by omega)
 obtain ⟨Qkb, hQkb⟩ : ∃ Q, numR Qka.1 1 = Q := ⟨_, rfl⟩
 have hf := byte_lt HQ3.out.z
 rw [hQkb] at hn hf
 have hxkb : IntKind.u8.wrap ((Qkb.2 : Nat) : Int) = (Qkb.2 : Nat) := u8_keep hf
 clear hf
 have HQkb := Lib.hid hQkb
 clear hQkb
 refine hn.mono ?_
 rintro e y4 ⟨rfl, hz, hc⟩
 have HQb := Lib.hid (HQ3.out.low hz hc)
 clear hz hc hn HQ3 c0
 obtain ⟨cy, cf⟩ := HQb.out.cx (j := 6) (v := .int .u8 0) rfl
 go_upto_region 16 with (fail)
 clear cy cf hxkb
 have hq := HQb.out.put 6 (.int .u8 ((Qkb.2 : Nat) : Int)) (rm 6 0 ((Qtx.2 : Nat) : Int) 0 false ((Qka.2 : Nat) : Int) ((Qkb.2 : Nat) : Int) 0 0 0) rfl
 generalize y4.setCell ⟨R + 2, 6, none⟩ (.int .u8 ((Qkb.2 : Nat) : Int)) = w4 at *
 have HQ4 := Lib.hid hq
 clear hq HQb
 have c0 := (HQ4.out.cx (j := 0) (v := .int .u8 6) rfl).1
 go_wp2_with fail
 have hn := pgnum_any HQ4.out.z 1 (by omega)
 obtain ⟨Qkc, hQkc⟩ : ∃ Q, numR Qkb.1 1 = Q := ⟨_, rfl⟩
 have hf := byte_lt HQ4.out.z
 rw [hQkc] at hn hf
 have hxkc : IntKind.u8.wrap ((Qkc.2 : Nat) : Int) = (Qkc.2 : Nat) := u8_keep hf
 clear hf
 have HQkc := Lib.hid hQkc
 clear hQkc
 refine hn.mono ?_
 rintro e y5 ⟨rfl, hz, hc⟩
 have HQb := Lib.hid (HQ4.out.low hz hc)
 clear hz hc hn HQ4 c0
 obtain ⟨cy, cf⟩ := HQb.out.cx (j := 7) (v := .int .u8 0) rfl
 go_upto_region 17 with (fail)
 clear cy cf hxkc
 have hq := HQb.out.put 7 (.int .u8 ((Qkc.2 : Nat) : Int)) (rm 6 0 ((Qtx.2 : Nat) : Int) 0 false ((Qka.2 : Nat) : Int) ((Qkb.2 : Nat) : Int) ((Qkc.2 : Nat) : Int) 0 0) rfl
 generalize y5.setCell ⟨R + 2, 7, none⟩ (.int .u8 ((Qkc.2 : Nat) : Int)) = w5 at *
 have HQ5 := Lib.hid hq
 clear hq HQb
 have c0 := (HQ5.out.cx (j := 0) (v := .int .u8 6) rfl).1
 go_wp2_with fail
 have hn := pgint_any HQ5.out.z
 obtain ⟨Qd, hQd⟩ : ∃ Q, numR Qkc.1 8 = Q := ⟨_, rfl⟩
 have hf := num8_lt HQ5.out.z
 rw [hQd] at hn hf
 rw [sgn_wrap _ hf] at hn
 clear hf
 have HQd := Lib.hid hQd
 clear hQd
 refine hn.mono ?_
 rintro e y6 ⟨rfl, hz, hc⟩
 have HQb := Lib.hid (HQ5.out.low hz hc)
 clear hz hc hn HQ5 c0
 obtain ⟨cy, cf⟩ := HQb.out.cx (j := 8) (v := .int .i64 0) rfl
 go_upto_region 18 with (fail)
 clear cy cf
 have hq := HQb.out.put 8 (.int .i64 (sgn Qd.2)) (rm 6 0 ((Qtx.2 : Nat) : Int) 0 false ((Qka.2 : Nat) : Int) ((Qkb.2 : Nat) : Int) ((Qkc.2 : Nat) : Int) (sgn Qd.2) 0) rfl
 generalize y6.setCell ⟨R + 2, 8, none⟩ (.int .i64 (sgn Qd.2)) = w6 at *
 have HQ6 := Lib.hid hq
 clear hq HQb
 have c0 := (HQ6.out.cx (j := 0) (v := .int .u8 6) rfl).1
 obtain ⟨DD, hDD⟩ : ∃ D : Rdd, D = ⟨Qd.1, { noX with k := 6, sg := 0, tx := ((Qtx.2 : Nat) : Int), st := 0, cp := false, key := (((Qka.2 : Nat) : Int), ((Qkb.2 : Nat) : Int), ((Qkc.2 : Nat) : Int)), d := (sgn Qd.2), o := 0 }, 0⟩ := ⟨_, rfl⟩
 have HRX : Hid (rdX 6 R0.1 = DD) := Lib.hid (by rw [hDD]; simp [rdX, rd3, keyR, HQtx.out, HQka.out, HQkb.out, HQkc.out, HQd.out, noX])
 have HED : Hid (errD DD = Qd.1.1) := Lib.hid (by rw [hDD]; rfl)
 have HST : Hid (DD.st.2 = Qd.1.2) := Lib.hid (by rw [hDD])
 have HXX : Hid ((rm 6 0 ((Qtx.2 : Nat) : Int) 0 false ((Qka.2 : Nat) : Int) ((Qkb.2 : Nat) : Int) ((Qkc.2 : Nat) : Int) (sgn Qd.2) 0).x [] [] [] = DD.rx) := Lib.hid (by rw [hDD]; rfl)
 clear hDD
 have HKO : Hid (kOk 6 = true) := Lib.hid rfl
 have HDX := Lib.hid (decX_ok2 HR0.out HKK.out HKO.out HRX.out)
 have x1 := HQ6.out.z.err
 by_cases he9 : Qd.1.1 = 0
 case neg =>
  have d9 : (Qd.1.1 != 0) = true := by simpa using he9
  have hq9 : Hid (Qd.1.1 ≠ 0) := Lib.hid he9
  obtain ⟨pr, nr, cr, hbx, hpr⟩ := HQ6.out.z.box
  have HQd := Lib.hid (HQ6.out.later (show Below w6.heap.size w6 w6.drew from (Below.refl _ _).drew))
  have HBX : Hid (w6.drew.heap[R + 1]? = some (.cells #[.slice pr nr cr, .int .i64 Qd.1.1] 162 (0, 0))) := Lib.hid hbx
  clear he9 hbx hpr
  have HRF : Hid (RB (w6.drew.setRow R (rcs rz)) R rz) := Lib.hid (HQd.out.res.set _)
  have HG : Hid (GivesXr W (decX Bs) (.returned (.tuple #[.agg zr, .int .i64 Qd.1.1])) (w6.drew.setRow R zr)) := Lib.hid (by
   have hp : decX Bs = (Qd.1.1, noX) := by
    rw [HDX.out, if_pos (by rw [rdE_err (by rw [HED.out]; exact hq9.out), HED.out]; exact hq9.out), rdE_err (by rw [HED.out]; exact hq9.out), HED.out]
   rw [hp]
   exact ⟨rz, [], [], [], rfl, rfl, rz_m _, below_setRow HQd.out.below HQd.out.base zr, nw_rz _⟩)
  go_wp2_with fail
  refine wp_region_held_drew (S := fun w' => Hid (w'.heap[R + 1]? = some (.cells #[.slice pr nr cr, .int .i64 Qd.1.1] 162 (0, 0)))) (by kernel_rfl) HBX (fun hHeld => ?_)
  refine wpAnyH_take (i := 0) (oi := ⟨some 113, _, _, _, _, _⟩) (v := .agg zr) rfl (by kernel_rfl) (by kernel_rfl) (by kernel_rfl) (fun _ _ _ h => h) (Or.inl ⟨by rfl, fun w' hw' => ?_⟩) (by assumption) ?_
  · clear hHeld
    go_simp
  simp only [Act.put, List.setIfInBounds_toArray, List.set_cons_zero, List.set_cons_succ]
  refine wpAnyH_take (i := 1) (oi := ⟨some 114, _, _, _, _, _⟩) (v := .pointer (some ⟨R + 1, 0, none⟩)) rfl (by kernel_rfl) (by kernel_rfl) (by kernel_rfl) (fun _ _ _ h => h) (Or.inl ⟨by rfl, fun w' hw' => ?_⟩) (by assumption) ?_
  · clear hHeld
    go_simp
  simp only [Act.put, List.setIfInBounds_toArray, List.set_cons_zero, List.set_cons_succ]
  refine wpAnyH_take (i := 2) (oi := ⟨some 115, _, _, _, _, _⟩) (v := .pointer (some ⟨R + 1, 0, none⟩)) rfl (by kernel_rfl) (by kernel_rfl) (by kernel_rfl) (fun _ _ _ h => h) (Or.inl ⟨by rfl, fun w' hw' => ?_⟩) (by assumption) ?_
  · clear hHeld
    go_simp
  simp only [Act.put, List.setIfInBounds_toArray, List.set_cons_zero, List.set_cons_succ]
  refine wpAnyH_take (i := 3) (oi := ⟨some 116, _, _, _, _, _⟩) (v := .pointer (some ⟨R + 1, 1, none⟩)) rfl (by kernel_rfl) (by kernel_rfl) (by kernel_rfl) (fun _ _ _ h => h) (Or.inl ⟨by rfl, fun w' hw' => ?_⟩) (by assumption) ?_
  · clear hHeld
    go_simp
  simp only [Act.put, List.setIfInBounds_toArray, List.set_cons_zero, List.set_cons_succ]
  refine wpAnyH_take (i := 4) (oi := ⟨some 117, _, _, _, _, _⟩) (v := .int .i64 Qd.1.1) rfl (by kernel_rfl) (by kernel_rfl) (by kernel_rfl) (fun _ _ _ h => h) (Or.inl ⟨by rfl, fun w' hw' => ?_⟩) (by assumption) ?_
  · have g1 := block_cell (j := 1) (v := .int .i64 Qd.1.1) hw'.out rfl
    clear hHeld
    go_simp
  simp only [Act.put, List.setIfInBounds_toArray, List.set_cons_zero, List.set_cons_succ]
  generalize w6.drew = Wd at *
  refine wpAnyH_ready (rs := [5]) (by kernel_rfl) (by simp) (AllReadyH.cons rfl (fun K hK => ?_) AllReadyH.nil)
  rw [if_pos (by rfl)]
  refine wp_store_row 51 _ _ rfl R zr rfl rfl 51 _ HQd.out.res (by kernel_rfl) rfl (rcs_one rz) ?_
  have HB2 : Hid ((Wd.setRow R zr).heap[R + 1]? = some (.cells #[.slice pr nr cr, .int .i64 Qd.1.1] 162 (0, 0))) := Lib.hid ((setRow_other _ _ _ _ (by omega)).trans HBX.out)
  refine hK.out _ _ HB2 (fun hHeld2 => ?_)
  clear hK K hHeld
  have hHeld := hHeld2
  clear hHeld2
  (try simp only [Act.put, List.setIfInBounds_toArray, List.set_cons_zero, List.set_cons_succ])
  refine wpAnyH_take (i := 6) (oi := ⟨some 3, _, _, _, _, _⟩) (v := .int .i64 Qd.1.1) rfl (by kernel_rfl) (by kernel_rfl) (by kernel_rfl) (fun _ _ _ h => h) (Or.inl ⟨by rfl, fun w' hw' => ?_⟩) (by assumption) ?_
  · clear hHeld
    go_simp
  simp only [Act.put, List.setIfInBounds_toArray, List.set_cons_zero, List.set_cons_succ]
  refine wpAnyH_done (by kernel_rfl) ?_ _
  clear hHeld
  (try simp only [Exit.inBlock, Exit.then])
  go_wp2_with fail
  refine bodyPost_ret (v := .tuple #[.agg zr, .int .i64 Qd.1.1]) ?_ rfl HG.out
  exact results_rc rfl _ _ R rz _ rfl rfl HRF.out
 have d9 : (Qd.1.1 != 0) = false := by simp [he9]
 obtain ⟨pr, nr, cr, hbx, hpr⟩ := HQ6.out.z.box
 have hln := (hpr he9).1.len
 rw [he9] at hbx
 have HLN := Lib.hid hln
 have HZ9 : Hid (errD DD = 0) := Lib.hid (HED.out.trans he9)
 have b0 : w6.cell? ⟨R + 1, 0, none⟩ = some (.slice pr nr cr) := block_cell hbx rfl
 have b1 : w6.cell? ⟨R + 1, 1, none⟩ = some (.int .i64 0) := block_cell hbx rfl
 clear hbx hpr hln x1
 rw [he9] at d9
 clear he9
 by_cases hnr : 0 < nr
 case pos =>
  have hd : decide ((0 : Int) < (nr : Int)) = true := decide_eq_true (by omega)
  have hdn : decide (0 < nr) = true := decide_eq_true hnr
  have HNR := Lib.hid hnr
  clear hnr
  have HRF : Hid (RB (w6.setRow R (rcs rz)) R rz) := Lib.hid (HQ6.out.res.set _)
  have HG : Hid (GivesXr W (decX Bs) (.returned (.tuple #[.agg zr, .int .i64 8])) (w6.setRow R zr)) := Lib.hid (by
   have hp : decX Bs = (8, noX) := by
    have h8 := rdE_long HZ9.out (by rw [HST.out, HLN.out]; exact HNR.out)
    rw [HDX.out, if_pos (by rw [h8]; decide), h8]
   rw [hp]
   exact ⟨rz, [], [], [], rfl, rfl, rz_m _, below_setRow HQ6.out.below HQ6.out.base zr, nw_rz _⟩)
  go_wp2_with ((with_reducible refine wpList_store_rc rz HQ6.out.res ?_ ?_ ?_); rfl; rfl)
  (try simp only [Exit.inBlock, Exit.then])
  refine bodyPost_ret (v := .tuple #[.agg zr, .int .i64 8]) ?_ rfl HG.out
  exact results_rc rfl _ _ R rz _ rfl rfl HRF.out
 have hd : decide ((0 : Int) < (nr : Int)) = false := decide_eq_false (by omega)
 have hdn : decide (0 < nr) = false := decide_eq_false hnr
 have HNR := Lib.hid hnr
 clear hnr
 have h0 : rdE DD = 0 := rdE_end HZ9.out (by rw [HST.out, HLN.out]; exact HNR.out)
 have HDY : Hid (decX Bs = if goodX DD.rx = true then (0, DD.rx) else (8, noX)) := Lib.hid (by rw [HDX.out, if_neg (fun h => h h0)])
 have HMM := Lib.hid ((rm_lists 6 0 ((Qtx.2 : Nat) : Int) 0 false ((Qka.2 : Nat) : Int) ((Qkb.2 : Nat) : Int) ((Qkc.2 : Nat) : Int) (sgn Qd.2) 0 w6))
 have hokk := rdX_ok (k := 6) HKO.out (S := R0.1) (by rw [← HR0.out]; exact numR_bytes (S := (0, Bs)) HBY.out 1)
 rw [HRX.out, ← HXX.out] at hokk
 obtain ⟨hok, hs1, hs2, hs3⟩ := hokk
 have hgd := rrec_good (rm 6 0 ((Qtx.2 : Nat) : Int) 0 false ((Qka.2 : Nat) : Int) ((Qkb.2 : Nat) : Int) ((Qkc.2 : Nat) : Int) (sgn Qd.2) 0) [] [] [] w6 HMM.out hok (of_lists3 HMM.out ⟨hs1, hs2, hs3⟩)
 clear h0 hok hs1 hs2 hs3
 go_wp2_with (first | ((with_reducible refine wpList_load_rcg HQ6.out.x ?_ ?_ ?_); rfl; rfl))
 refine hgd.mono ?_
 rintro e w90 ⟨rfl, hb90⟩
 have HQ90 := Lib.hid (HQ6.out.later hb90)
 have HM90 := Lib.hid (HMM.out.later hb90)
 clear hb90 hgd b0 b1
 cases hg : goodX ((rm 6 0 ((Qtx.2 : Nat) : Int) 0 false ((Qka.2 : Nat) : Int) ((Qkb.2 : Nat) : Int) ((Qkc.2 : Nat) : Int) (sgn Qd.2) 0).x [] [] [])
 case false =>
  have HRF : Hid (RB (w90.setRow R (rcs rz)) R rz) := Lib.hid (HQ90.out.res.set _)
  have HG : Hid (GivesXr W (decX Bs) (.returned (.tuple #[.agg zr, .int .i64 8])) (w90.setRow R zr)) := Lib.hid (by
   have hp : decX Bs = (8, noX) := by
    rw [HDY.out, ← HXX.out, if_neg (by rw [hg]; decide)]
   rw [hp]
   exact ⟨rz, [], [], [], rfl, rfl, rz_m _, below_setRow HQ90.out.below HQ90.out.base zr, nw_rz _⟩)
  go_wp2_with ((with_reducible refine wpList_store_rc rz HQ90.out.res ?_ ?_ ?_); rfl; rfl)
  (try simp only [Exit.inBlock, Exit.then])
  refine bodyPost_ret (v := .tuple #[.agg zr, .int .i64 8]) ?_ rfl HG.out
  exact results_rc rfl _ _ R rz _ rfl rfl HRF.out
 have HRF : Hid (RB (w90.setRow R (rcs (rm 6 0 ((Qtx.2 : Nat) : Int) 0 false ((Qka.2 : Nat) : Int) ((Qkb.2 : Nat) : Int) ((Qkc.2 : Nat) : Int) (sgn Qd.2) 0))) R (rm 6 0 ((Qtx.2 : Nat) : Int) 0 false ((Qka.2 : Nat) : Int) ((Qkb.2 : Nat) : Int) ((Qkc.2 : Nat) : Int) (sgn Qd.2) 0)) := Lib.hid (HQ90.out.res.set _)
 have HG : Hid (GivesXr W (decX Bs) (.returned (.tuple #[.agg (rcs (rm 6 0 ((Qtx.2 : Nat) : Int) 0 false ((Qka.2 : Nat) : Int) ((Qkb.2 : Nat) : Int) ((Qkc.2 : Nat) : Int) (sgn Qd.2) 0)), .int .i64 0])) (w90.setRow R (rcs (rm 6 0 ((Qtx.2 : Nat) : Int) 0 false ((Qka.2 : Nat) : Int) ((Qkb.2 : Nat) : Int) ((Qkc.2 : Nat) : Int) (sgn Qd.2) 0)))) := Lib.hid (by
  have hp : decX Bs = (0, (rm 6 0 ((Qtx.2 : Nat) : Int) 0 false ((Qka.2 : Nat) : Int) ((Qkb.2 : Nat) : Int) ((Qkc.2 : Nat) : Int) (sgn Qd.2) 0).x [] [] []) := by rw [HDY.out, ← HXX.out, if_pos hg]
  rw [hp]
  exact ⟨(rm 6 0 ((Qtx.2 : Nat) : Int) 0 false ((Qka.2 : Nat) : Int) ((Qkb.2 : Nat) : Int) ((Qkc.2 : Nat) : Int) (sgn Qd.2) 0), [], [], [], rfl, rfl, rm_lists _ _ _ _ _ _ _ _ _ _ _, below_setRow HQ90.out.below HQ90.out.base (rcs (rm 6 0 ((Qtx.2 : Nat) : Int) 0 false ((Qka.2 : Nat) : Int) ((Qkb.2 : Nat) : Int) ((Qkc.2 : Nat) : Int) (sgn Qd.2) 0)), nw_no _ rfl rfl rfl⟩)
 clear hg
 go_wp2_with (first | ((with_reducible refine wpList_load_rc HQ90.out.x ?_ ?_); rfl) | ((with_reducible refine wpList_store_rc (rm 6 0 ((Qtx.2 : Nat) : Int) 0 false ((Qka.2 : Nat) : Int) ((Qkb.2 : Nat) : Int) ((Qkc.2 : Nat) : Int) (sgn Qd.2) 0) HQ90.out.res ?_ ?_ ?_); rfl; rfl))
 (try simp only [Exit.inBlock, Exit.then])
 refine bodyPost_ret (v := .tuple #[.agg (rcs (rm 6 0 ((Qtx.2 : Nat) : Int) 0 false ((Qka.2 : Nat) : Int) ((Qkb.2 : Nat) : Int) ((Qkc.2 : Nat) : Int) (sgn Qd.2) 0)), .int .i64 0]) ?_ rfl HG.out
 exact results_rc rfl _ _ R (rm 6 0 ((Qtx.2 : Nat) : Int) 0 false ((Qka.2 : Nat) : Int) ((Qkb.2 : Nat) : Int) ((Qkc.2 : Nat) : Int) (sgn Qd.2) 0) _ rfl rfl HRF.out
set_option maxHeartbeats 16000000 in
theorem rrec_dec7 (p : Option Addr) (n c : Nat) (Bs : List Nat) (W : World) (hw : Words W) (hS : Sl W p n c Bs) (hcm : c ≤ maxLen) (hk : (((numR ((0, Bs) : St) 1).2 : Nat) : Int) = 7) : Calls Tryz.prog 50 #[.slice p n c] W (GivesXr W (decX Bs)) := by
 obtain ⟨R, w00, w0, hR, hw00, hs00, hx00, hw0, hQ0⟩ := rrd_start p n c Bs W hS hcm
 have HW00 := Lib.hid hw00
 have HS00 := Lib.hid hs00
 have HX00 := Lib.hid hx00
 have HW0 := Lib.hid hw0
 have HQ0 := Lib.hid hQ0
 have HRE := Lib.hid hR
 have HWD := Lib.hid hw
 have HBY : Hid (∀ y ∈ Bs, y < 256) := Lib.hid hS.lt
 clear hw00 hs00 hx00 hw0 hQ0 hR hw hS hcm
 obtain ⟨R0, hR0⟩ : ∃ Q, numR ((0, Bs) : St) 1 = Q := ⟨_, rfl⟩
 have hn := pgnum_any HQ0.out.z 1 (by omega)
 have hf := byte_lt HQ0.out.z
 have hz0 := err_0 (Bs := Bs) (by rw [hk]; rfl)
 rw [hR0] at hz0
 have HZ0 := Lib.hid hz0
 clear hz0
 rw [hR0] at hn hf hk
 have HR0 := Lib.hid hR0
 have hx0 : IntKind.u8.wrap ((R0.2 : Nat) : Int) = (R0.2 : Nat) := u8_keep hf
 rw [hk] at hn hx0
 have HKK := Lib.hid hk
 clear hf hR0 hk
 go_enter Tryz.func50, Tryz.ntmps50
 go_upto_region 2 with (fail)
 rw [HW00.out, HRE.out]
 go_upto_region 3 with ((try rw [HS00.out]); (with_reducible refine wpList_store_rc rz HX00.out ?_ ?_ ?_); rfl; rfl; rw [HW0.out])
 go_wp2_with fail
 refine hn.mono ?_
 rintro e y0 ⟨rfl, hz, hc⟩
 have HQb := Lib.hid (HQ0.out.low hz hc)
 clear hz hc hn
 obtain ⟨cy, cf⟩ := HQb.out.cx (j := 0) (v := .int .u8 0) rfl
 go_upto_region 4 with (fail)
 clear cy cf hx0
 have hq := HQb.out.put 0 (.int .u8 7) (rm 7 0 0 0 false 0 0 0 0 0) rfl
 generalize y0.setCell ⟨R + 2, 0, none⟩ (.int .u8 7) = w1 at *
 have HQ1 := Lib.hid hq
 clear hq HQb HQ0 HW00 HS00 HX00 HW0
 have x1 := HQ1.out.z.err
 rw [HZ0.out] at x1
 have c0 := (HQ1.out.cx (j := 0) (v := .int .u8 7) rfl).1
 go_wp2_with fail
 clear x1
 have hn := pgnum_any HQ1.out.z 4 (by omega)
 obtain ⟨Qtx, hQtx⟩ : ∃ Q, numR R0.1 4 = Q := ⟨_, rfl⟩
 have hf := num4_lt HQ1.out.z
 rw [hQtx] at hn hf
 have hxtx : IntKind.u32.wrap ((Qtx.2 : Nat) : Int) = (Qtx.2 : Nat) := u32_keep hf
 clear hf
 have HQtx := Lib.hid hQtx
 clear hQtx
 refine hn.mono ?_
 rintro e y2 ⟨rfl, hz, hc⟩
 have HQb := Lib.hid (HQ1.out.low hz hc)
 clear hz hc hn HQ1 c0
 obtain ⟨cy, cf⟩ := HQb.out.cx (j := 2) (v := .int .u32 0) rfl
 go_upto_region 10 with (fail)
 clear cy cf hxtx
 have hq := HQb.out.put 2 (.int .u32 ((Qtx.2 : Nat) : Int)) (rm 7 0 ((Qtx.2 : Nat) : Int) 0 false 0 0 0 0 0) rfl
 generalize y2.setCell ⟨R + 2, 2, none⟩ (.int .u32 ((Qtx.2 : Nat) : Int)) = w2 at *
 have HQ2 := Lib.hid hq
 clear hq HQb
 have c0 := (HQ2.out.cx (j := 0) (v := .int .u8 7) rfl).1
 obtain ⟨DD, hDD⟩ : ∃ D : Rdd, D = ⟨Qtx.1, { noX with k := 7, sg := 0, tx := ((Qtx.2 : Nat) : Int), st := 0, cp := false, key := (0, 0, 0), d := 0, o := 0 }, 0⟩ := ⟨_, rfl⟩
 have HRX : Hid (rdX 7 R0.1 = DD) := Lib.hid (by rw [hDD]; simp [rdX, rd4, keyR, HQtx.out, noX])
 have HED : Hid (errD DD = Qtx.1.1) := Lib.hid (by rw [hDD]; rfl)
 have HST : Hid (DD.st.2 = Qtx.1.2) := Lib.hid (by rw [hDD])
 have HXX : Hid ((rm 7 0 ((Qtx.2 : Nat) : Int) 0 false 0 0 0 0 0).x [] [] [] = DD.rx) := Lib.hid (by rw [hDD]; rfl)
 clear hDD
 have HKO : Hid (kOk 7 = true) := Lib.hid rfl
 have HDX := Lib.hid (decX_ok2 HR0.out HKK.out HKO.out HRX.out)
 have x1 := HQ2.out.z.err
 by_cases he9 : Qtx.1.1 = 0
 case neg =>
  have d9 : (Qtx.1.1 != 0) = true := by simpa using he9
  have hq9 : Hid (Qtx.1.1 ≠ 0) := Lib.hid he9
  obtain ⟨pr, nr, cr, hbx, hpr⟩ := HQ2.out.z.box
  have HQd := Lib.hid (HQ2.out.later (show Below w2.heap.size w2 w2.drew from (Below.refl _ _).drew))
  have HBX : Hid (w2.drew.heap[R + 1]? = some (.cells #[.slice pr nr cr, .int .i64 Qtx.1.1] 162 (0, 0))) := Lib.hid hbx
  clear he9 hbx hpr
  have HRF : Hid (RB (w2.drew.setRow R (rcs rz)) R rz) := Lib.hid (HQd.out.res.set _)
  have HG : Hid (GivesXr W (decX Bs) (.returned (.tuple #[.agg zr, .int .i64 Qtx.1.1])) (w2.drew.setRow R zr)) := Lib.hid (by
   have hp : decX Bs = (Qtx.1.1, noX) := by
    rw [HDX.out, if_pos (by rw [rdE_err (by rw [HED.out]; exact hq9.out), HED.out]; exact hq9.out), rdE_err (by rw [HED.out]; exact hq9.out), HED.out]
   rw [hp]
   exact ⟨rz, [], [], [], rfl, rfl, rz_m _, below_setRow HQd.out.below HQd.out.base zr, nw_rz _⟩)
  go_wp2_with fail
  refine wp_region_held_drew (S := fun w' => Hid (w'.heap[R + 1]? = some (.cells #[.slice pr nr cr, .int .i64 Qtx.1.1] 162 (0, 0)))) (by kernel_rfl) HBX (fun hHeld => ?_)
  refine wpAnyH_take (i := 0) (oi := ⟨some 113, _, _, _, _, _⟩) (v := .agg zr) rfl (by kernel_rfl) (by kernel_rfl) (by kernel_rfl) (fun _ _ _ h => h) (Or.inl ⟨by rfl, fun w' hw' => ?_⟩) (by assumption) ?_
  · clear hHeld
    go_simp
  simp only [Act.put, List.setIfInBounds_toArray, List.set_cons_zero, List.set_cons_succ]
  refine wpAnyH_take (i := 1) (oi := ⟨some 114, _, _, _, _, _⟩) (v := .pointer (some ⟨R + 1, 0, none⟩)) rfl (by kernel_rfl) (by kernel_rfl) (by kernel_rfl) (fun _ _ _ h => h) (Or.inl ⟨by rfl, fun w' hw' => ?_⟩) (by assumption) ?_
  · clear hHeld
    go_simp
  simp only [Act.put, List.setIfInBounds_toArray, List.set_cons_zero, List.set_cons_succ]
  refine wpAnyH_take (i := 2) (oi := ⟨some 115, _, _, _, _, _⟩) (v := .pointer (some ⟨R + 1, 0, none⟩)) rfl (by kernel_rfl) (by kernel_rfl) (by kernel_rfl) (fun _ _ _ h => h) (Or.inl ⟨by rfl, fun w' hw' => ?_⟩) (by assumption) ?_
  · clear hHeld
    go_simp
  simp only [Act.put, List.setIfInBounds_toArray, List.set_cons_zero, List.set_cons_succ]
  refine wpAnyH_take (i := 3) (oi := ⟨some 116, _, _, _, _, _⟩) (v := .pointer (some ⟨R + 1, 1, none⟩)) rfl (by kernel_rfl) (by kernel_rfl) (by kernel_rfl) (fun _ _ _ h => h) (Or.inl ⟨by rfl, fun w' hw' => ?_⟩) (by assumption) ?_
  · clear hHeld
    go_simp
  simp only [Act.put, List.setIfInBounds_toArray, List.set_cons_zero, List.set_cons_succ]
  refine wpAnyH_take (i := 4) (oi := ⟨some 117, _, _, _, _, _⟩) (v := .int .i64 Qtx.1.1) rfl (by kernel_rfl) (by kernel_rfl) (by kernel_rfl) (fun _ _ _ h => h) (Or.inl ⟨by rfl, fun w' hw' => ?_⟩) (by assumption) ?_
  · have g1 := block_cell (j := 1) (v := .int .i64 Qtx.1.1) hw'.out rfl
    clear hHeld
    go_simp
  simp only [Act.put, List.setIfInBounds_toArray, List.set_cons_zero, List.set_cons_succ]
  generalize w2.drew = Wd at *
  refine wpAnyH_ready (rs := [5]) (by kernel_rfl) (by simp) (AllReadyH.cons rfl (fun K hK => ?_) AllReadyH.nil)
  rw [if_pos (by rfl)]
  refine wp_store_row 51 _ _ rfl R zr rfl rfl 51 _ HQd.out.res (by kernel_rfl) rfl (rcs_one rz) ?_
  have HB2 : Hid ((Wd.setRow R zr).heap[R + 1]? = some (.cells #[.slice pr nr cr, .int .i64 Qtx.1.1] 162 (0, 0))) := Lib.hid ((setRow_other _ _ _ _ (by omega)).trans HBX.out)
  refine hK.out _ _ HB2 (fun hHeld2 => ?_)
  clear hK K hHeld
  have hHeld := hHeld2
  clear hHeld2
  (try simp only [Act.put, List.setIfInBounds_toArray, List.set_cons_zero, List.set_cons_succ])
  refine wpAnyH_take (i := 6) (oi := ⟨some 3, _, _, _, _, _⟩) (v := .int .i64 Qtx.1.1) rfl (by kernel_rfl) (by kernel_rfl) (by kernel_rfl) (fun _ _ _ h => h) (Or.inl ⟨by rfl, fun w' hw' => ?_⟩) (by assumption) ?_
  · clear hHeld
    go_simp
  simp only [Act.put, List.setIfInBounds_toArray, List.set_cons_zero, List.set_cons_succ]
  refine wpAnyH_done (by kernel_rfl) ?_ _
  clear hHeld
  (try simp only [Exit.inBlock, Exit.then])
  go_wp2_with fail
  refine bodyPost_ret (v := .tuple #[.agg zr, .int .i64 Qtx.1.1]) ?_ rfl HG.out
  exact results_rc rfl _ _ R rz _ rfl rfl HRF.out
 have d9 : (Qtx.1.1 != 0) = false := by simp [he9]
 obtain ⟨pr, nr, cr, hbx, hpr⟩ := HQ2.out.z.box
 have hln := (hpr he9).1.len
 rw [he9] at hbx
 have HLN := Lib.hid hln
 have HZ9 : Hid (errD DD = 0) := Lib.hid (HED.out.trans he9)
 have b0 : w2.cell? ⟨R + 1, 0, none⟩ = some (.slice pr nr cr) := block_cell hbx rfl
 have b1 : w2.cell? ⟨R + 1, 1, none⟩ = some (.int .i64 0) := block_cell hbx rfl
 clear hbx hpr hln x1
 rw [he9] at d9
 clear he9
 by_cases hnr : 0 < nr
 case pos =>
  have hd : decide ((0 : Int) < (nr : Int)) = true := decide_eq_true (by omega)
  have hdn : decide (0 < nr) = true := decide_eq_true hnr
  have HNR := Lib.hid hnr
  clear hnr
  have HRF : Hid (RB (w2.setRow R (rcs rz)) R rz) := Lib.hid (HQ2.out.res.set _)
  have HG : Hid (GivesXr W (decX Bs) (.returned (.tuple #[.agg zr, .int .i64 8])) (w2.setRow R zr)) := Lib.hid (by
   have hp : decX Bs = (8, noX) := by
    have h8 := rdE_long HZ9.out (by rw [HST.out, HLN.out]; exact HNR.out)
    rw [HDX.out, if_pos (by rw [h8]; decide), h8]
   rw [hp]
   exact ⟨rz, [], [], [], rfl, rfl, rz_m _, below_setRow HQ2.out.below HQ2.out.base zr, nw_rz _⟩)
  go_wp2_with ((with_reducible refine wpList_store_rc rz HQ2.out.res ?_ ?_ ?_); rfl; rfl)
  (try simp only [Exit.inBlock, Exit.then])
  refine bodyPost_ret (v := .tuple #[.agg zr, .int .i64 8]) ?_ rfl HG.out
  exact results_rc rfl _ _ R rz _ rfl rfl HRF.out
 have hd : decide ((0 : Int) < (nr : Int)) = false := decide_eq_false (by omega)
 have hdn : decide (0 < nr) = false := decide_eq_false hnr
 have HNR := Lib.hid hnr
 clear hnr
 have h0 : rdE DD = 0 := rdE_end HZ9.out (by rw [HST.out, HLN.out]; exact HNR.out)
 have HDY : Hid (decX Bs = if goodX DD.rx = true then (0, DD.rx) else (8, noX)) := Lib.hid (by rw [HDX.out, if_neg (fun h => h h0)])
 have HMM := Lib.hid ((rm_lists 7 0 ((Qtx.2 : Nat) : Int) 0 false 0 0 0 0 0 w2))
 have hokk := rdX_ok (k := 7) HKO.out (S := R0.1) (by rw [← HR0.out]; exact numR_bytes (S := (0, Bs)) HBY.out 1)
 rw [HRX.out, ← HXX.out] at hokk
 obtain ⟨hok, hs1, hs2, hs3⟩ := hokk
 have hgd := rrec_good (rm 7 0 ((Qtx.2 : Nat) : Int) 0 false 0 0 0 0 0) [] [] [] w2 HMM.out hok (of_lists3 HMM.out ⟨hs1, hs2, hs3⟩)
 clear h0 hok hs1 hs2 hs3
 go_wp2_with (first | ((with_reducible refine wpList_load_rcg HQ2.out.x ?_ ?_ ?_); rfl; rfl))
 refine hgd.mono ?_
 rintro e w90 ⟨rfl, hb90⟩
 have HQ90 := Lib.hid (HQ2.out.later hb90)
 have HM90 := Lib.hid (HMM.out.later hb90)
 clear hb90 hgd b0 b1
 cases hg : goodX ((rm 7 0 ((Qtx.2 : Nat) : Int) 0 false 0 0 0 0 0).x [] [] [])
 case false =>
  have HRF : Hid (RB (w90.setRow R (rcs rz)) R rz) := Lib.hid (HQ90.out.res.set _)
  have HG : Hid (GivesXr W (decX Bs) (.returned (.tuple #[.agg zr, .int .i64 8])) (w90.setRow R zr)) := Lib.hid (by
   have hp : decX Bs = (8, noX) := by
    rw [HDY.out, ← HXX.out, if_neg (by rw [hg]; decide)]
   rw [hp]
   exact ⟨rz, [], [], [], rfl, rfl, rz_m _, below_setRow HQ90.out.below HQ90.out.base zr, nw_rz _⟩)
  go_wp2_with ((with_reducible refine wpList_store_rc rz HQ90.out.res ?_ ?_ ?_); rfl; rfl)
  (try simp only [Exit.inBlock, Exit.then])
  refine bodyPost_ret (v := .tuple #[.agg zr, .int .i64 8]) ?_ rfl HG.out
  exact results_rc rfl _ _ R rz _ rfl rfl HRF.out
 have HRF : Hid (RB (w90.setRow R (rcs (rm 7 0 ((Qtx.2 : Nat) : Int) 0 false 0 0 0 0 0))) R (rm 7 0 ((Qtx.2 : Nat) : Int) 0 false 0 0 0 0 0)) := Lib.hid (HQ90.out.res.set _)
 have HG : Hid (GivesXr W (decX Bs) (.returned (.tuple #[.agg (rcs (rm 7 0 ((Qtx.2 : Nat) : Int) 0 false 0 0 0 0 0)), .int .i64 0])) (w90.setRow R (rcs (rm 7 0 ((Qtx.2 : Nat) : Int) 0 false 0 0 0 0 0)))) := Lib.hid (by
  have hp : decX Bs = (0, (rm 7 0 ((Qtx.2 : Nat) : Int) 0 false 0 0 0 0 0).x [] [] []) := by rw [HDY.out, ← HXX.out, if_pos hg]
  rw [hp]
  exact ⟨(rm 7 0 ((Qtx.2 : Nat) : Int) 0 false 0 0 0 0 0), [], [], [], rfl, rfl, rm_lists _ _ _ _ _ _ _ _ _ _ _, below_setRow HQ90.out.below HQ90.out.base (rcs (rm 7 0 ((Qtx.2 : Nat) : Int) 0 false 0 0 0 0 0)), nw_no _ rfl rfl rfl⟩)
 clear hg
 go_wp2_with (first | ((with_reducible refine wpList_load_rc HQ90.out.x ?_ ?_); rfl) | ((with_reducible refine wpList_store_rc (rm 7 0 ((Qtx.2 : Nat) : Int) 0 false 0 0 0 0 0) HQ90.out.res ?_ ?_ ?_); rfl; rfl))
 (try simp only [Exit.inBlock, Exit.then])
 refine bodyPost_ret (v := .tuple #[.agg (rcs (rm 7 0 ((Qtx.2 : Nat) : Int) 0 false 0 0 0 0 0)), .int .i64 0]) ?_ rfl HG.out
 exact results_rc rfl _ _ R (rm 7 0 ((Qtx.2 : Nat) : Int) 0 false 0 0 0 0 0) _ rfl rfl HRF.out
end Go.Proofs.YtfdgnniicjdjdaaGreatDoor
