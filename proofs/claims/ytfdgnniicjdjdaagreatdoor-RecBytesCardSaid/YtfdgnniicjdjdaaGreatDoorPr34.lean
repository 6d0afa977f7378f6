import Derived.Test.YtfdgnniicjdjdaaGreatDoorPr33
namespace Go.Proofs.YtfdgnniicjdjdaaGreatDoor
open Go.RowKit Go.ChangeShapes Go.WideShapes
set_option linter.unusedVariables false
set_option linter.unusedSimpArgs false
set_option maxRecDepth 10000
theorem boolR_bad {S : St} (h : S.1 ≠ 0) : boolR S = (S, false) := by
 unfold boolR
 rw [numR_bad h (by omega), if_neg (by omega)]
 rfl
theorem bytesR_bad {S : St} (h : S.1 ≠ 0) : bytesR S 512 = (S, []) := by
 unfold bytesR
 rw [numR_bad h (by omega), if_neg (by omega)]
 unfold takeR
 rw [if_neg h]
theorem bad_nn {e : Int} (he : e ≠ 0) {S : St} (h : (bad e S).1 = 0) : False := by
 unfold bad at h
 split at h
 · exact he h
 · rename_i hn; exact hn h
theorem short_zero {size : Int} (hs : 1 ≤ size ∧ size ≤ 8) : (numR (0, []) size).1.1 = 6 := by
 unfold numR takeR
 rw [if_pos hs, if_pos rfl, if_pos (by simp; omega)]
set_option maxHeartbeats 4000000 in
theorem rtruth_any {w : World} {B : Nat} {p0 : Option Addr} {S : St} (h : Rr w B p0 S) :
 Calls Tryz.prog 95 #[.pointer (some ⟨B, 0, none⟩)] w fun e w' => e = .returned (.bool (boolR S).2) ∧ Rr w' B p0 (boolR S).1 ∧ Chg (fun k => k = B) w w' := by
 obtain ⟨p, n, c, hb, hp⟩ := h.box
 have e0 : w.cell? ⟨B, 0, none⟩ = some (.slice p n c) := block_cell hb rfl
 have e1 : w.cell? ⟨B, 1, none⟩ = some (.int .i64 S.1) := block_cell hb rfl
 by_cases h0 : S.1 = 0
 case neg =>
  have hd : (S.1 != 0) = true := by simpa using h0
  have hn := boolR_bad h0
  have HR := Lib.hid h
  rw [hn]
  clear hn h0 hp hb h
  generalize S.1 = s1 at *
  go_enter Tryz.func95, Tryz.ntmps95
  go_wp2_with fail
  go_ret
  exact ⟨rfl, HR.out, Chg.refl _ _⟩
 obtain ⟨s, L⟩ := S
 obtain rfl : s = 0 := h0
 have hpt := hp rfl
 have hgn := getbool_any p n c L w hpt.1 hpt.2.2
 have HP := Lib.hid hpt
 have HA := Lib.hid (h.apart rfl)
 have hap : (boolR (0, L)).1.1 = 0 → L ≠ [] := by
  rintro hz rfl
  have h6 := short_zero (size := 1) (by omega)
  unfold boolR at hz
  split at hz
  · exact bad_nn (by decide) hz
  · rw [h6] at hz; exact absurd hz (by decide)
 have HAP := Lib.hid hap
 clear hap
 have HBX := Lib.hid hb
 dsimp only at e1
 clear hp hpt h hb
 go_enter Tryz.func95, Tryz.ntmps95
 go_wp2_with fail
 refine hgn.mono ?_
 rintro e w2 ⟨q, m, d, kk, rfl, hq, rfl⟩
 have HQ := Lib.hid (show Part (w.drewN kk) p0 q m d (restOf (boolR (0, L)).1) from ⟨hq.1.later (below_drewN (Below.refl _ _) kk), hq.2.1.trans HP.out.2.1, hq.2.2⟩)
 have hb2 := block_later HBX.out (below_drewN (Below.refl w.heap.size w) kk)
 have e0' : (w.drewN kk).cell? ⟨B, 0, none⟩ = some (.slice p n c) := block_cell hb2 rfl
 have e1' : (w.drewN kk).cell? ⟨B, 1, none⟩ = some (.int .i64 0) := block_cell hb2 rfl
 have f0 := frozen_zero hb2 0
 have f1 := frozen_zero hb2 1
 have hb3 := block_put 0 (.slice q m d) hb2
 have f3 := frozen_zero hb3 1
 have e3 : ((w.drewN kk).setCell ⟨B, 0, none⟩ (.slice q m d)).cell? ⟨B, 1, none⟩ = some (.int .i64 0) := block_cell hb3 (by simp)
 have hb4 := block_put 1 (.int .i64 (boolR (0, L)).1.1) hb3
 have hc4 : Chg (fun k => k = B) w (((w.drewN kk).setCell ⟨B, 0, none⟩ (.slice q m d)).setCell ⟨B, 1, none⟩ (.int .i64 (boolR (0, L)).1.1)) :=
  (((Chg.refl (fun k => k = B) w).drewN kk).setCell ⟨B, 0, none⟩ _ fun _ => rfl).setCell ⟨B, 1, none⟩ _ fun _ => rfl
 have HBOX : Hid ((((w.drewN kk).setCell ⟨B, 0, none⟩ (.slice q m d)).setCell ⟨B, 1, none⟩ (.int .i64 (boolR (0, L)).1.1)).heap[B]? = some (.cells #[.slice q m d, .int .i64 (boolR (0, L)).1.1] 162 (0, 0))) := Lib.hid (by simpa using hb4)
 have HC4 := Lib.hid hc4
 have HQ4 : Hid ((boolR (0, L)).1.1 = 0 → Part (((w.drewN kk).setCell ⟨B, 0, none⟩ (.slice q m d)).setCell ⟨B, 1, none⟩ (.int .i64 (boolR (0, L)).1.1)) p0 q m d (restOf (boolR (0, L)).1)) := Lib.hid fun hz => (HQ.out.keep (fun a ha => Nat.ne_of_lt (HA.out (HAP.out hz) a ha)) (((Chg.refl (fun k => k = B) (w.drewN kk)).setCell ⟨B, 0, none⟩ _ fun _ => rfl).setCell ⟨B, 1, none⟩ _ fun _ => rfl))
 clear hgn hq hb2 hb3 hb4 hc4 HQ
 have hrest : ∀ S : St, S.1 = 0 → restOf S = S.2 := fun S h => if_pos h
 generalize hRR : boolR (0, L) = R at *
 obtain ⟨⟨s2, L2⟩, x⟩ := R
 have HRR := Lib.hid hRR
 dsimp only at e1' HBOX HC4 HQ4
 have HREST := Lib.hid hrest
 clear hrest hRR
 go_wp2_with fail
 go_ret
 rw [HRR.out]
 refine ⟨rfl, ⟨⟨q, m, d, HBOX.out, fun hz => ?_⟩, fun hz _ => HA.out (HAP.out hz)⟩, HC4.out⟩
 have := HQ4.out hz
 rw [HREST.out (s2, L2) hz] at this
 exact this
def progS (S : St) : St × Pg := if (bytesR S 512).1.1 = 0 then (((decP (bytesR S 512).2).1, (bytesR S 512).1.2), (decP (bytesR S 512).2).2) else ((bytesR S 512).1, noP)
def GivesPr (w : World) (B : Nat) (p0 : Option Addr) (S : St) (e : Ending) (w' : World) : Prop := ∃ (pv : Rv) (L : List Ln) (T : List Tk) (M : List Ln), e = .returned (.agg (pcs pv)) ∧ pv.pg L T M = (progS S).2 ∧ RvM w' pv L T M ∧ ((∀ a, pv.lp = some a → w.heap.size ≤ a.block) ∧ (∀ a, pv.tp = some a → w.heap.size ≤ a.block) ∧ (∀ a, pv.wp = some a → w.heap.size ≤ a.block)) ∧ Rr w' B p0 (progS S).1 ∧ Chg (fun k => k = B) w w'
theorem results_one {fn : Func} (h : fn.results = #[.cell 2 49]) (tmps : Array Value) (W : World) (R : Nat) (C : Array Value) (hp : tmps.getD 2 undef = .pointer (some ⟨R, 0, none⟩)) (hB : W.heap[R]? = some (.cells C 49 (0, 0))) (hC : C.size = 10) : (results fn tmps).run Tryz.prog W = .ok (.agg C) W :=
 results_cell_row h tmps W R 49 C (0, 0) _ hp hB Tryz.underlying49 rfl (by rw [hC]; kernel_rfl)
theorem no_new (x : Nat) : (∀ a, (none : Option Addr) = some a → x ≤ a.block) := fun a h => by cases h
set_option maxHeartbeats 8000000 in
theorem rprog_any {w : World} {B : Nat} {p0 : Option Addr} {S : St} (h : Rr w B p0 S) (hw : ∀ w', Chg (fun k => k = B) w w' → Words w') :
 Calls Tryz.prog 97 #[.pointer (some ⟨B, 0, none⟩)] w (GivesPr w B p0 S) := by
 obtain ⟨R, hR⟩ : ∃ R, w.heap.size = R := ⟨_, rfl⟩
 obtain ⟨w0, hw0, hr0, hb0⟩ : ∃ w0, w.alloc (.cells zc 49) = w0 ∧ w0.heap[R]? = some (.cells zc 49 (0, 0)) ∧ Below w.heap.size w w0 := ⟨_, rfl, by rw [← hR]; exact alloc_block w _, (Below.refl _ _).alloc (Nat.le_refl _) _⟩
 have h' := h.later hb0
 obtain ⟨p, n, c, hb, hp⟩ := h'.box
 have hBR : B < R := by
  obtain ⟨_, _, _, hbx, _⟩ := h.box
  have := block_lt hbx
  omega
 have e0 : w0.cell? ⟨B, 0, none⟩ = some (.slice p n c) := block_cell hb rfl
 have e1 : w0.cell? ⟨B, 1, none⟩ = some (.int .i64 S.1) := block_cell hb rfl
 have HRE := Lib.hid hR
 have HW0 := Lib.hid hw0
 have HR0 := Lib.hid hr0
 have HB0 := Lib.hid hb0
 have HBR := Lib.hid hBR
 have HWD := Lib.hid hw
 have hch0 : Chg (fun k => k = B) w w0 := Chg.of_below hb0
 have HC0 := Lib.hid hch0
 by_cases h0 : S.1 = 0
 case neg =>
  have hd : (S.1 != 0) = true := by simpa using h0
  have hRF := setRow_heap w0 R _ zc _ _ hr0
  have HRF := Lib.hid hRF
  have HG : Hid (GivesPr w B p0 S (.returned (.agg zc)) (w0.setRow R zc)) := Lib.hid (by
   have hs : progS S = (S, noP) := by unfold progS; rw [bytesR_bad h0, if_neg h0]
   have hcc : Chg (fun k => k = R) w0 (w0.setRow R zc) := ⟨rfl, rfl, rfl, by simp [World.setRow], fun k _ hn => setRow_other _ _ _ _ hn⟩
   refine ⟨⟨0, 0, 0, 0, false, 0, 0, 0, 0, 0, 0, 0, 0, none, 0, 0, none, 0, 0, none, 0, 0, 0, 0, 0, 0⟩, [], [], [], rfl, by rw [hs]; rfl, ⟨SlG.empty _, SlG.empty _, SlG.empty _⟩, ⟨no_new _, no_new _, no_new _⟩, ?_, hch0.trans hcc fun k hk e => by omega⟩
   rw [hs]
   exact h'.chg hcc fun k hk => by omega)
  clear h0 hp hb h h' hR hw0 hr0 hb0 hBR hw hRF hch0
  generalize S.1 = s1 at *
  go_enter Tryz.func97, Tryz.ntmps97
  go_upto_region 1 with (fail)
  rw [HW0.out, HRE.out]
  go_wp2_with ((with_reducible refine wpList_store_pg 0 0 0 none 0 0 none 0 0 none 0 0 0 0 0 0 HR0.out ?_ ?_ ?_); rfl; rfl)
  (try simp only [Exit.inBlock, Exit.then])
  refine bodyPost_ret (v := .agg zc) ?_ rfl HG.out
  exact results_one rfl _ _ R zc rfl HRF.out rfl
 obtain ⟨s, L0⟩ := S
 obtain rfl : s = 0 := h0
 have hpt := hp rfl
 have hgn := getbytes_any p n c L0 512 w0 hpt.1 hpt.2.2
 have HP := Lib.hid hpt
 have HA := Lib.hid (h'.apart rfl)
 have hap : (bytesR (0, L0) 512).1.1 = 0 → L0 ≠ [] := by
  rintro hz rfl
  have h6 := short_zero (size := 2) (by omega)
  unfold bytesR at hz
  by_cases hm : (512 : Int) < ((numR (0, []) 2).2 : Int)
  · rw [if_pos hm] at hz
    have hne : ¬ (bad 7 (numR ((0, []) : St) 2).1).1 = 0 := fun h => bad_nn (by decide) h
    unfold takeR at hz
    rw [if_neg hne] at hz
    exact hne hz
  · rw [if_neg hm] at hz
    have hne : ¬ (numR ((0, []) : St) 2).1.1 = 0 := by rw [h6]; decide
    unfold takeR at hz
    rw [if_neg hne] at hz
    exact hne hz
 have HAP := Lib.hid hap
 have HBX := Lib.hid hb
 dsimp only at e1
 clear hap hp hpt h h' hb hR hw0 hr0 hb0 hBR hw hch0
 go_enter Tryz.func97, Tryz.ntmps97
 go_upto_region 1 with (fail)
 rw [HW0.out, HRE.out]
 go_wp2_with fail
 refine hgn.mono ?_
 rintro e w2 ⟨t, tm, td, q, m, d, kk, rfl, ht, hq, rfl⟩
 have HT := Lib.hid (show Part (w0.drewN kk) p0 t tm td (bytesR (0, L0) 512).2 from ⟨ht.1.later (below_drewN (Below.refl _ _) kk), ht.2.1.trans HP.out.2.1, ht.2.2⟩)
 have HQ := Lib.hid (show Part (w0.drewN kk) p0 q m d (restOf (bytesR (0, L0) 512).1) from ⟨hq.1.later (below_drewN (Below.refl _ _) kk), hq.2.1.trans HP.out.2.1, hq.2.2⟩)
 have hb2 := block_later HBX.out (below_drewN (Below.refl w0.heap.size w0) kk)
 have e0' : (w0.drewN kk).cell? ⟨B, 0, none⟩ = some (.slice p n c) := block_cell hb2 rfl
 have e1' : (w0.drewN kk).cell? ⟨B, 1, none⟩ = some (.int .i64 0) := block_cell hb2 rfl
 have f0 := frozen_zero hb2 0
 have f1 := frozen_zero hb2 1
 have hb3 := block_put 0 (.slice q m d) hb2
 have f3 := frozen_zero hb3 1
 have e3 : ((w0.drewN kk).setCell ⟨B, 0, none⟩ (.slice q m d)).cell? ⟨B, 1, none⟩ = some (.int .i64 0) := block_cell hb3 (by simp)
 have hb4 := block_put 1 (.int .i64 (bytesR (0, L0) 512).1.1) hb3
 obtain ⟨w4, hw4⟩ : ∃ w4, ((w0.drewN kk).setCell ⟨B, 0, none⟩ (.slice q m d)).setCell ⟨B, 1, none⟩ (.int .i64 (bytesR (0, L0) 512).1.1) = w4 := ⟨_, rfl⟩
 have hc4 : Chg (fun k => k = B) w0 (((w0.drewN kk).setCell ⟨B, 0, none⟩ (.slice q m d)).setCell ⟨B, 1, none⟩ (.int .i64 (bytesR (0, L0) 512).1.1)) :=
  (((Chg.refl (fun k => k = B) w0).drewN kk).setCell ⟨B, 0, none⟩ _ fun _ => rfl).setCell ⟨B, 1, none⟩ _ fun _ => rfl
 have hc42 : Chg (fun k => k = B) (w0.drewN kk) (((w0.drewN kk).setCell ⟨B, 0, none⟩ (.slice q m d)).setCell ⟨B, 1, none⟩ (.int .i64 (bytesR (0, L0) 512).1.1)) :=
  ((Chg.refl (fun k => k = B) (w0.drewN kk)).setCell ⟨B, 0, none⟩ _ fun _ => rfl).setCell ⟨B, 1, none⟩ _ fun _ => rfl
 rw [hw4] at hb4 hc4 hc42
 have HBOX : Hid (w4.heap[B]? = some (.cells #[.slice q m d, .int .i64 (bytesR (0, L0) 512).1.1] 162 (0, 0))) := Lib.hid (by simpa using hb4)
 have HC4 := Lib.hid (HC0.out.trans hc4 fun _ _ e => e)
 have HR4 := Lib.hid ((hc4.block R (block_lt HR0.out) (by have := HBR.out; omega)).trans HR0.out)
 have HQ4 : Hid ((bytesR (0, L0) 512).1.1 = 0 → Part w4 p0 q m d (restOf (bytesR (0, L0) 512).1)) := Lib.hid fun hz => HQ.out.keep (fun a ha => Nat.ne_of_lt (HA.out (HAP.out hz) a ha)) hc42
 have HT4 : Hid ((bytesR (0, L0) 512).1.1 = 0 → Part w4 p0 t tm td (bytesR (0, L0) 512).2) := Lib.hid fun hz => HT.out.keep (fun a ha => Nat.ne_of_lt (HA.out (HAP.out hz) a ha)) hc42
 have HW4 := Lib.hid hw4
 have HMO := Lib.hid (bytesR_most ((0, L0) : St))
 have HS4 := Lib.hid hc4.size
 clear hgn ht hq hb2 hb3 hb4 hc4 hc42 HQ HT hw4
 have HPS : Hid (progS (0, L0) = if (bytesR (0, L0) 512).1.1 = 0 then (((decP (bytesR (0, L0) 512).2).1, (bytesR (0, L0) 512).1.2), (decP (bytesR (0, L0) 512).2).2) else ((bytesR (0, L0) 512).1, noP)) := Lib.hid rfl
 have hrest : ∀ S : St, S.1 = 0 → restOf S = S.2 := fun S h => if_pos h
 have HREST := Lib.hid hrest
 generalize bytesR (0, L0) 512 = Rb at *
 obtain ⟨⟨s2, L2⟩, Y⟩ := Rb
 dsimp only at HBOX HC4 HQ4 HT4 HW4 HMO HPS HAP
 clear hrest
 by_cases hz : s2 = 0
 case neg =>
  have hd : (s2 != 0) = true := by simpa using hz
  have HRF := Lib.hid (setRow_heap w4 R _ zc _ _ HR4.out)
  have HG : Hid (GivesPr w B p0 (0, L0) (.returned (.agg zc)) (w4.setRow R zc)) := Lib.hid (by
   have hs : progS (0, L0) = ((s2, L2), noP) := by rw [HPS.out, if_neg hz]
   have hBR := HBR.out
   have hRE := HRE.out
   have hcc : Chg (fun k => k = R) w4 (w4.setRow R zc) := ⟨rfl, rfl, rfl, by simp [World.setRow], fun k _ hn => setRow_other _ _ _ _ hn⟩
   refine ⟨⟨0, 0, 0, 0, false, 0, 0, 0, 0, 0, 0, 0, 0, none, 0, 0, none, 0, 0, none, 0, 0, 0, 0, 0, 0⟩, [], [], [], rfl, by rw [hs]; rfl, ⟨SlG.empty _, SlG.empty _, SlG.empty _⟩, ⟨no_new _, no_new _, no_new _⟩, ?_, HC4.out.trans hcc fun k hk e => by omega⟩
   rw [hs]
   exact ⟨⟨q, m, d, (setRow_other _ _ _ _ (by omega)).trans HBOX.out, fun h => absurd h hz⟩, fun h => absurd h hz⟩)
  clear hz
  go_wp2_with (first | ((try rw [HW4.out]); (with_reducible refine wpList_store_pg 0 0 0 none 0 0 none 0 0 none 0 0 0 0 0 0 HR4.out ?_ ?_ ?_); rfl; rfl))
  (try simp only [Exit.inBlock, Exit.then])
  (try rw [HW4.out])
  refine bodyPost_ret (v := .agg zc) ?_ rfl HG.out
  exact results_one rfl _ _ R zc rfl HRF.out rfl
 subst hz
 have HPS1 := Lib.hid (HPS.out.trans (if_pos rfl))
 go_wp2_with fail
 rw [HW4.out]
 refine (rdecode2 t tm td Y w4 (HWD.out w4 HC4.out) (HT4.out (by simp)).1 (HT4.out (by simp)).2.2).mono ?_
 rintro e w5 ⟨lp5, lc5, tp5, tc5, wp5, wc5, rfl, hP5, hb5, hf1, hf2, hf3⟩
 rw [dec_both] at hP5 ⊢
 have HFR : Hid ((∀ a, lp5 = some a → w4.heap.size ≤ a.block) ∧ (∀ a, tp5 = some a → w4.heap.size ≤ a.block) ∧ (∀ a, wp5 = some a → w4.heap.size ≤ a.block)) := Lib.hid ⟨hf1, hf2, hf3⟩
 have HC5 := Lib.hid (HC4.out.trans (Chg.of_below (S := fun k => k = B) hb5) fun _ _ e => e)
 have HR5 := Lib.hid (block_later HR4.out hb5)
 have HBX5 := Lib.hid (block_later HBOX.out hb5)
 have HQ5 := Lib.hid (show Part w5 p0 q m d L2 from by
  have := HQ4.out (by simp)
  rw [HREST.out (0, L2) rfl] at this
  exact ⟨this.1.later hb5, this.2.1, this.2.2⟩)
 have HS5 : Hid (w4.heap.size ≤ w5.heap.size) := Lib.hid hb5.size
 clear hb5 hf1 hf2 hf3
 generalize decP Y = dp at *
 obtain ⟨er, k2, od2, po2, Lq, Tq, Mq, sk2, fr2, to2, q2⟩ := dp
 dsimp only at hP5 ⊢
 generalize Lq.length = ln5 at *
 generalize Tq.length = tn5 at *
 generalize Mq.length = wn5 at *
 have HP5 := Lib.hid hP5
 clear hP5
 obtain ⟨N5, hN5⟩ : ∃ n, w5.heap.size = n := ⟨_, rfl⟩
 obtain ⟨w6, hwn, hxn, hbn⟩ : ∃ w6, (w5.alloc (.cells zc 49)).setRow N5 #[.int .u8 k2, .int .u32 od2, .int .u8 po2, .slice lp5 ln5 lc5, .slice tp5 tn5 tc5, .slice wp5 wn5 wc5, .int .u8 sk2, .int .u8 fr2, .int .u8 to2, .int .i64 q2] = w6 ∧ w6.heap[N5]? = some (.cells #[.int .u8 k2, .int .u32 od2, .int .u8 po2, .slice lp5 ln5 lc5, .slice tp5 tn5 tc5, .slice wp5 wn5 wc5, .int .u8 sk2, .int .u8 fr2, .int .u8 to2, .int .i64 q2] 49 (0, 0)) ∧ Below w5.heap.size w5 w6 := ⟨_, rfl, by rw [← hN5]; exact setRow_heap _ _ _ _ _ _ (alloc_block w5 _), below_setRow ((Below.refl _ _).alloc (Nat.le_refl _) _) (by omega) _⟩
 have hx5 := alloc_block w5 (.cells zc 49)
 rw [hN5] at hx5
 have HX5 := Lib.hid hx5
 have HW6 := Lib.hid hwn
 have HN5 := Lib.hid hN5
 have hb6 := block_later HBX5.out hbn
 have hR6 := block_later HR5.out hbn
 have e6 : w6.cell? ⟨B, 1, none⟩ = some (.int .i64 0) := block_cell hb6 rfl
 have f6 := frozen_zero hb6 1
 have hBR := HBR.out
 have hRl := block_lt HR5.out
 obtain ⟨w7, hw7⟩ : ∃ w7, w6.setCell ⟨B, 1, none⟩ (.int .i64 er) = w7 := ⟨_, rfl⟩
 have hc7 : Chg (fun k => k = B) w6 w7 := by rw [← hw7]; exact (Chg.refl (fun k => k = B) w6).setCell ⟨B, 1, none⟩ _ fun _ => rfl
 have hb7 := block_put 1 (.int .i64 er) hb6
 rw [hw7] at hb7
 have hX7 := (hc7.block N5 (block_lt hxn) (by omega)).trans hxn
 have HR7 := Lib.hid ((hc7.block R (block_lt hR6) (by omega)).trans hR6)
 have HB7 : Hid (w7.heap[B]? = some (.cells #[.slice q m d, .int .i64 er] 162 (0, 0))) := Lib.hid (by simpa using hb7)
 have HC7 := Lib.hid ((HC5.out.trans (Chg.of_below (S := fun k => k = B) hbn) fun _ _ e => e).trans hc7 fun _ _ e => e)
 have HQ7 : Hid (L2 ≠ [] → Part w7 p0 q m d L2) := Lib.hid fun hne => Part.keep ⟨HQ5.out.1.later hbn, HQ5.out.2.1, HQ5.out.2.2⟩ (fun a ha => Nat.ne_of_lt (HA.out (HAP.out (by simp)) a ha)) hc7
 have hw04 := HS4.out
 have hs5 := HS5.out
 have HP7 := Lib.hid (pgm_chg (HP5.out.later hbn) hc7 (fun a h e => by have := HFR.out.1 a h; have := block_lt HR4.out; omega) (fun a h e => by have := HFR.out.2.1 a h; have := block_lt HR4.out; omega) (fun a h e => by have := HFR.out.2.2 a h; have := block_lt HR4.out; omega))
 obtain ⟨a0, a1, a2, a3, a4, a5, a6, a7, a8, a9⟩ := prog_cells k2 od2 po2 lp5 ln5 lc5 tp5 tn5 tc5 wp5 wn5 wc5 sk2 fr2 to2 q2 hX7
 have HW7 := Lib.hid hw7
 have HRL := Lib.hid (block_lt HR4.out)
 clear hwn hxn hbn hx5 hN5 hb6 hR6 hBR hRl hw7 hc7 hb7 hX7 hw04 hs5
 obtain ⟨C, hC⟩ : ∃ C : Array Value, #[.int .u8 k2, .int .u32 od2, .int .u8 po2, .slice lp5 ln5 lc5, .slice tp5 tn5 tc5, .slice wp5 wn5 wc5, .int .u8 sk2, .int .u8 fr2, .int .u8 to2, .int .i64 q2] = C := ⟨_, rfl⟩
 have HRF := Lib.hid (setRow_heap w7 R _ C _ _ HR7.out)
 have HG : Hid (GivesPr w B p0 (0, L0) (.returned (.agg C)) (w7.setRow R C)) := Lib.hid (by
  have hBR := HBR.out
  have hRE := HRE.out
  have hRL := HRL.out
  have hcc : Chg (fun k => k = R) w7 (w7.setRow R C) := ⟨rfl, rfl, rfl, by simp [World.setRow], fun k _ hn => setRow_other _ _ _ _ hn⟩
  refine ⟨⟨0, 0, 0, 0, false, 0, 0, 0, 0, 0, k2, od2, po2, lp5, ln5, lc5, tp5, tn5, tc5, wp5, wn5, wc5, sk2, fr2, to2, q2⟩, Lq, Tq, Mq, by rw [← hC]; rfl, by rw [HPS1.out]; rfl, ?_, ⟨fun a h => by have := HFR.out.1 a h; omega, fun a h => by have := HFR.out.2.1 a h; omega, fun a h => by have := HFR.out.2.2 a h; omega⟩, ?_, HC7.out.trans hcc fun k hk e => by omega⟩
  · exact pgm_chg HP7.out hcc (fun a h e => by have := HFR.out.1 a h; omega) (fun a h e => by have := HFR.out.2.1 a h; omega) (fun a h e => by have := HFR.out.2.2 a h; omega)
  · rw [HPS1.out]
    have hr7 : Rr w7 B p0 (er, L2) := ⟨⟨q, m, d, HB7.out, fun _ => by
     by_cases hne : L2 = []
     · have h5 := HQ5.out
       have hl := h5.1.len
       refine ⟨⟨h5.1.len, h5.1.cap, h5.1.nil, h5.1.lt, fun hn => ?_⟩, h5.2.1, h5.2.2⟩
       rw [hne] at hl
       have : m = 0 := hl.symm
       omega
     · exact HQ7.out hne⟩, fun _ _ => HA.out (HAP.out (by simp))⟩
    exact hr7.chg hcc fun k hk => by omega)
 subst hC
 go_upto_region 10 with ((try rw [HN5.out]); (with_reducible refine wpList_store_pg k2 od2 po2 lp5 ln5 lc5 tp5 tn5 tc5 wp5 wn5 wc5 sk2 fr2 to2 q2 HX5.out ?_ ?_ ?_); rfl; rfl; rw [HW6.out])
 rw [HW7.out]
 go_wp2_with ((with_reducible refine wpList_store_pg k2 od2 po2 lp5 ln5 lc5 tp5 tn5 tc5 wp5 wn5 wc5 sk2 fr2 to2 q2 HR7.out ?_ ?_ ?_); rfl; rfl)
 (try simp only [Exit.inBlock, Exit.then])
 refine bodyPost_ret (v := .agg #[.int .u8 k2, .int .u32 od2, .int .u8 po2, .slice lp5 ln5 lc5, .slice tp5 tn5 tc5, .slice wp5 wn5 wc5, .int .u8 sk2, .int .u8 fr2, .int .u8 to2, .int .i64 q2]) ?_ rfl HG.out
 exact results_one rfl _ _ R _ rfl HRF.out rfl
theorem two_recs (W : World) (r r' : Rv) : ∃ W1, (W.alloc (.cells (rcs r) 51)).alloc (.cells (rcs r') 51) = W1 ∧ RB W1 W.heap.size r ∧ RB W1 (W.heap.size + 1) r' ∧ Below W.heap.size W W1 := by
 refine ⟨_, rfl, ?_, ?_, ((Below.refl _ _).alloc (Nat.le_refl _) _).alloc (by simp) _⟩
 · exact (Below.heap_alloc _ _ _ (by simp)).trans (alloc_block W _)
 · have := alloc_block (W.alloc (.cells (rcs r) 51)) (.cells (rcs r') 51)
   rw [World.size_alloc] at this
   exact this
theorem rx_eq (r r' : Rv) (L : List Ln) (T : List Tk) (M : List Ln) (L' : List Ln) (T' : List Tk) (M' : List Ln) : decide (r.x L T M = r'.x L' T' M') = (r.k == r'.k && r.sg == r'.sg && r.tx == r'.tx && r.st == r'.st && r.cp == r'.cp && decide (((r.ka, r.kb, r.kc) : K) = (r'.ka, r'.kb, r'.kc)) && r.d == r'.d && r.o == r'.o && decide (r.pg L T M = r'.pg L' T' M')) := by
 rw [Bool.eq_iff_iff]
 simp only [decide_eq_true_eq, Bool.and_eq_true, beq_iff_eq]
 constructor
 · intro h
   refine ⟨⟨⟨⟨⟨⟨⟨⟨?_, ?_⟩, ?_⟩, ?_⟩, ?_⟩, ?_⟩, ?_⟩, ?_⟩, ?_⟩
   · exact congrArg Rx.k h
   · exact congrArg Rx.sg h
   · exact congrArg Rx.tx h
   · exact congrArg Rx.st h
   · exact congrArg Rx.cp h
   · exact congrArg Rx.key h
   · exact congrArg Rx.d h
   · exact congrArg Rx.o h
   · exact congrArg Rx.pg h
 · rintro ⟨⟨⟨⟨⟨⟨⟨⟨h1, h2⟩, h3⟩, h4⟩, h5⟩, h6⟩, h7⟩, h8⟩, h9⟩
   unfold Rv.x
   rw [h1, h2, h3, h4, h5, h6, h7, h8, h9]
set_option maxHeartbeats 8000000 in
theorem rrec_same (r r' : Rv) (L : List Ln) (T : List Tk) (M : List Ln) (L' : List Ln) (T' : List Tk) (M' : List Ln) (W : World) (hP : RvM W r L T M) (hP' : RvM W r' L' T' M') (h1 : r.ln ≤ 1000 ∧ r.tn ≤ 1000 ∧ r.wn ≤ 1000) (h2 : r'.ln ≤ 1000 ∧ r'.tn ≤ 1000 ∧ r'.wn ≤ 1000) : Calls Tryz.prog 51 #[.agg (rcs r), .agg (rcs r')] W fun e w' => e = .returned (.bool (decide (r.x L T M = r'.x L' T' M'))) ∧ Below W.heap.size W w' := by
 obtain ⟨W1, hW1, hx, hx', hb1⟩ := two_recs W r r'
 have HP := Lib.hid (hP.later hb1)
 have HP' := Lib.hid (hP'.later hb1)
 have hpp := rsame_p r.pk r.od r.po r.lp r.ln r.lcp r.tp r.tn r.tcp r.wp r.wn r.wcp r.sk r.fr r.to r.q r'.pk r'.od r'.po r'.lp r'.ln r'.lcp r'.tp r'.tn r'.tcp r'.wp r'.wn r'.wcp r'.sk r'.fr r'.to r'.q L T M L' T' M' W1 HP.out HP'.out h1 h2
 have hkk := fun w => key_eql r.ka r.kb r.kc r'.ka r'.kb r'.kc w
 obtain ⟨y, hy⟩ : ∃ y, decide (((r.ka, r.kb, r.kc) : K) = (r'.ka, r'.kb, r'.kc)) = y := ⟨_, rfl⟩
 obtain ⟨z, hz⟩ : ∃ z, decide (r.pg L T M = r'.pg L' T' M') = z := ⟨_, rfl⟩
 have hz' : decide ((⟨r.pk, r.od, r.po, L, T, M, r.sk, r.fr, r.to, r.q⟩ : Pg) = ⟨r'.pk, r'.od, r'.po, L', T', M', r'.sk, r'.fr, r'.to, r'.q⟩) = z := hz
 rw [hz'] at hpp
 rw [hy] at hkk
 have HA := Lib.hid (rx_eq r r' L T M L' T' M')
 rw [hy, hz] at HA
 have HX := Lib.hid hx
 have HX' := Lib.hid hx'
 have HW1 := Lib.hid hW1
 have HB1 := Lib.hid hb1
 have c0 : W1.cell? ⟨W.heap.size, 0, none⟩ = some (.int .u8 r.k) := block_cell hx rfl
 have d0 : W1.cell? ⟨W.heap.size + 1, 0, none⟩ = some (.int .u8 r'.k) := block_cell hx' rfl
 have c1 : W1.cell? ⟨W.heap.size, 1, none⟩ = some (.int .u32 r.sg) := block_cell hx rfl
 have d1 : W1.cell? ⟨W.heap.size + 1, 1, none⟩ = some (.int .u32 r'.sg) := block_cell hx' rfl
 have c2 : W1.cell? ⟨W.heap.size, 2, none⟩ = some (.int .u32 r.tx) := block_cell hx rfl
 have d2 : W1.cell? ⟨W.heap.size + 1, 2, none⟩ = some (.int .u32 r'.tx) := block_cell hx' rfl
 have c3 : W1.cell? ⟨W.heap.size, 3, none⟩ = some (.int .u8 r.st) := block_cell hx rfl
 have d3 : W1.cell? ⟨W.heap.size + 1, 3, none⟩ = some (.int .u8 r'.st) := block_cell hx' rfl
 have c4 : W1.cell? ⟨W.heap.size, 4, none⟩ = some (.bool r.cp) := block_cell hx rfl
 have d4 : W1.cell? ⟨W.heap.size + 1, 4, none⟩ = some (.bool r'.cp) := block_cell hx' rfl
 have c8 : W1.cell? ⟨W.heap.size, 8, none⟩ = some (.int .i64 r.d) := block_cell hx rfl
 have d8 : W1.cell? ⟨W.heap.size + 1, 8, none⟩ = some (.int .i64 r'.d) := block_cell hx' rfl
 have c9 : W1.cell? ⟨W.heap.size, 9, none⟩ = some (.int .u8 r.o) := block_cell hx rfl
 have d9 : W1.cell? ⟨W.heap.size + 1, 9, none⟩ = some (.int .u8 r'.o) := block_cell hx' rfl
 clear hW1 hx hx' hb1 hP hP' h1 h2 hy hz hz'
 cases qk : (r.k == r'.k)
 case false =>
  go_enter Tryz.func51, Tryz.ntmps51
  go_upto_region 1 with (fail)
  rw [HW1.out]
  go_wp2_with (first | ((with_reducible refine wpList_load_kyg HX.out ?_ ?_ ?_); rfl; rfl) | ((with_reducible refine wpList_load_kyg HX'.out ?_ ?_ ?_); rfl; rfl) | ((with_reducible refine wpList_load_prg HX.out ?_ ?_ ?_); rfl; rfl) | ((with_reducible refine wpList_load_prg HX'.out ?_ ?_ ?_); rfl; rfl))
  go_ret
  exact ⟨by rw [HA.out, qk]; rfl, HB1.out⟩
 cases qsg : (r.sg == r'.sg)
 case false =>
  go_enter Tryz.func51, Tryz.ntmps51
  go_upto_region 1 with (fail)
  rw [HW1.out]
  go_wp2_with (first | ((with_reducible refine wpList_load_kyg HX.out ?_ ?_ ?_); rfl; rfl) | ((with_reducible refine wpList_load_kyg HX'.out ?_ ?_ ?_); rfl; rfl) | ((with_reducible refine wpList_load_prg HX.out ?_ ?_ ?_); rfl; rfl) | ((with_reducible refine wpList_load_prg HX'.out ?_ ?_ ?_); rfl; rfl))
  go_ret
  exact ⟨by rw [HA.out, qk, qsg]; rfl, HB1.out⟩
 cases qtx : (r.tx == r'.tx)
 case false =>
  go_enter Tryz.func51, Tryz.ntmps51
  go_upto_region 1 with (fail)
  rw [HW1.out]
  go_wp2_with (first | ((with_reducible refine wpList_load_kyg HX.out ?_ ?_ ?_); rfl; rfl) | ((with_reducible refine wpList_load_kyg HX'.out ?_ ?_ ?_); rfl; rfl) | ((with_reducible refine wpList_load_prg HX.out ?_ ?_ ?_); rfl; rfl) | ((with_reducible refine wpList_load_prg HX'.out ?_ ?_ ?_); rfl; rfl))
  go_ret
  exact ⟨by rw [HA.out, qk, qsg, qtx]; rfl, HB1.out⟩
 cases qst : (r.st == r'.st)
 case false =>
  go_enter Tryz.func51, Tryz.ntmps51
  go_upto_region 1 with (fail)
  rw [HW1.out]
  go_wp2_with (first | ((with_reducible refine wpList_load_kyg HX.out ?_ ?_ ?_); rfl; rfl) | ((with_reducible refine wpList_load_kyg HX'.out ?_ ?_ ?_); rfl; rfl) | ((with_reducible refine wpList_load_prg HX.out ?_ ?_ ?_); rfl; rfl) | ((with_reducible refine wpList_load_prg HX'.out ?_ ?_ ?_); rfl; rfl))
  go_ret
  exact ⟨by rw [HA.out, qk, qsg, qtx, qst]; rfl, HB1.out⟩
 cases qcp : (r.cp == r'.cp)
 case false =>
  go_enter Tryz.func51, Tryz.ntmps51
  go_upto_region 1 with (fail)
  rw [HW1.out]
  go_wp2_with (first | ((with_reducible refine wpList_load_kyg HX.out ?_ ?_ ?_); rfl; rfl) | ((with_reducible refine wpList_load_kyg HX'.out ?_ ?_ ?_); rfl; rfl) | ((with_reducible refine wpList_load_prg HX.out ?_ ?_ ?_); rfl; rfl) | ((with_reducible refine wpList_load_prg HX'.out ?_ ?_ ?_); rfl; rfl))
  go_ret
  exact ⟨by rw [HA.out, qk, qsg, qtx, qst, qcp]; rfl, HB1.out⟩
 cases y
 case false =>
  go_enter Tryz.func51, Tryz.ntmps51
  go_upto_region 1 with (fail)
  rw [HW1.out]
  go_wp2_with (first | ((with_reducible refine wpList_load_kyg HX.out ?_ ?_ ?_); rfl; rfl) | ((with_reducible refine wpList_load_kyg HX'.out ?_ ?_ ?_); rfl; rfl) | ((with_reducible refine wpList_load_prg HX.out ?_ ?_ ?_); rfl; rfl) | ((with_reducible refine wpList_load_prg HX'.out ?_ ?_ ?_); rfl; rfl))
  go_ret
  exact ⟨by rw [HA.out, qk, qsg, qtx, qst, qcp]; rfl, HB1.out⟩
 cases qd : (r.d == r'.d)
 case false =>
  go_enter Tryz.func51, Tryz.ntmps51
  go_upto_region 1 with (fail)
  rw [HW1.out]
  go_wp2_with (first | ((with_reducible refine wpList_load_kyg HX.out ?_ ?_ ?_); rfl; rfl) | ((with_reducible refine wpList_load_kyg HX'.out ?_ ?_ ?_); rfl; rfl) | ((with_reducible refine wpList_load_prg HX.out ?_ ?_ ?_); rfl; rfl) | ((with_reducible refine wpList_load_prg HX'.out ?_ ?_ ?_); rfl; rfl))
  go_ret
  exact ⟨by rw [HA.out, qk, qsg, qtx, qst, qcp, qd]; rfl, HB1.out⟩
 cases qo : (r.o == r'.o)
 case false =>
  go_enter Tryz.func51, Tryz.ntmps51
  go_upto_region 1 with (fail)
  rw [HW1.out]
  go_wp2_with (first | ((with_reducible refine wpList_load_kyg HX.out ?_ ?_ ?_); rfl; rfl) | ((with_reducible refine wpList_load_kyg HX'.out ?_ ?_ ?_); rfl; rfl) | ((with_reducible refine wpList_load_prg HX.out ?_ ?_ ?_); rfl; rfl) | ((with_reducible refine wpList_load_prg HX'.out ?_ ?_ ?_); rfl; rfl))
  go_ret
  exact ⟨by rw [HA.out, qk, qsg, qtx, qst, qcp, qd, qo]; rfl, HB1.out⟩
 go_enter Tryz.func51, Tryz.ntmps51
 go_upto_region 1 with (fail)
 rw [HW1.out]
 go_wp2_with (first | ((with_reducible refine wpList_load_kyg HX.out ?_ ?_ ?_); rfl; rfl) | ((with_reducible refine wpList_load_kyg HX'.out ?_ ?_ ?_); rfl; rfl) | ((with_reducible refine wpList_load_prg HX.out ?_ ?_ ?_); rfl; rfl) | ((with_reducible refine wpList_load_prg HX'.out ?_ ?_ ?_); rfl; rfl))
 refine hpp.mono ?_
 rintro e w2 ⟨rfl, h2⟩
 have HB2 := Lib.hid (HB1.out.trans (h2.mono HB1.out.size))
 clear h2 hpp c0 d0 c1 d1 c2 d2 c3 d3 c4 d4 c8 d8 c9 d9
 go_wp2_with fail
 go_ret
 exact ⟨by rw [HA.out, qk, qsg, qtx, qst, qcp, qd, qo]; rfl, HB2.out⟩
theorem gk1 (sg tx st : Int) (cp : Bool) (key : K) (d o : Int) (pg : Pg) : goodX ⟨1, sg, tx, st, cp, key, d, o, pg⟩ = ((sg != 0) && goodP 4 4 pg && decide ((⟨1, sg, tx, st, cp, key, d, o, pg⟩ : Rx) = ⟨1, sg, 0, 0, false, (0, 0, 0), 0, 0, pg⟩)) := by
 rw [Bool.eq_iff_iff]
 simp [goodX, kOk, kS, kT, kB, kA, kO, kP, stepB, addB, outB, progB]
 grind
theorem gk2 (sg tx st : Int) (cp : Bool) (key : K) (d o : Int) (pg : Pg) : goodX ⟨2, sg, tx, st, cp, key, d, o, pg⟩ = ((sg != 0) && (tx != 0) && decide (st < 5) && decide ((⟨2, sg, tx, st, cp, key, d, o, pg⟩ : Rx) = ⟨2, sg, tx, st, cp, (0, 0, 0), 0, 0, noP⟩)) := by
 rw [Bool.eq_iff_iff]
 simp [goodX, kOk, kS, kT, kB, kA, kO, kP, stepB, addB, outB, progB]
 grind
theorem gk3 (sg tx st : Int) (cp : Bool) (key : K) (d o : Int) (pg : Pg) (hd : In64 d) : goodX ⟨3, sg, tx, st, cp, key, d, o, pg⟩ = ((tx != 0) && goodB 4 4 key.1 key.2.1 key.2.2 && (d != 0) && decide (-9223372036854775807 ≤ d) && decide ((⟨3, sg, tx, st, cp, key, d, o, pg⟩ : Rx) = ⟨3, 0, tx, 0, false, key, d, 0, noP⟩)) := by
 have h1 := hd.1
 have h2 : (d != -9223372036854775808) = decide (-9223372036854775807 ≤ d) := by
  rw [Bool.eq_iff_iff]; simp; omega
 rw [Bool.eq_iff_iff]
 simp [goodX, kOk, kS, kT, kB, kA, kO, kP, stepB, addB, outB, progB, h2]
 grind
theorem gk6 (sg tx st : Int) (cp : Bool) (key : K) (d o : Int) (pg : Pg) (hd : In64 d) : goodX ⟨6, sg, tx, st, cp, key, d, o, pg⟩ = ((tx != 0) && goodB 4 4 key.1 key.2.1 key.2.2 && (d != 0) && decide (-9223372036854775807 ≤ d) && decide ((⟨6, sg, tx, st, cp, key, d, o, pg⟩ : Rx) = ⟨6, 0, tx, 0, false, key, d, 0, noP⟩)) := by
 have h1 := hd.1
 have h2 : (d != -9223372036854775808) = decide (-9223372036854775807 ≤ d) := by
  rw [Bool.eq_iff_iff]; simp; omega
 rw [Bool.eq_iff_iff]
 simp [goodX, kOk, kS, kT, kB, kA, kO, kP, stepB, addB, outB, progB, h2]
 grind
theorem gk4 (k sg tx st : Int) (cp : Bool) (key : K) (d o : Int) (pg : Pg) (hk : k = 4 ∨ k = 5 ∨ k = 7) : goodX ⟨k, sg, tx, st, cp, key, d, o, pg⟩ = ((tx != 0) && decide ((⟨k, sg, tx, st, cp, key, d, o, pg⟩ : Rx) = ⟨k, 0, tx, 0, false, (0, 0, 0), 0, 0, noP⟩)) := by
 rw [Bool.eq_iff_iff]
 rcases hk with rfl | rfl | rfl <;> simp [goodX, kOk, kS, kT, kB, kA, kO, kP, stepB, addB, outB, progB] <;> grind
theorem gk8 (sg tx st : Int) (cp : Bool) (key : K) (d o : Int) (pg : Pg) : goodX ⟨8, sg, tx, st, cp, key, d, o, pg⟩ = ((sg != 0) && decide ((⟨8, sg, tx, st, cp, key, d, o, pg⟩ : Rx) = ⟨8, sg, 0, 0, false, (0, 0, 0), 0, 0, noP⟩)) := by
 rw [Bool.eq_iff_iff]
 simp [goodX, kOk, kS, kT, kB, kA, kO, kP, stepB, addB, outB, progB]
 grind
theorem gk9 (sg tx st : Int) (cp : Bool) (key : K) (d o : Int) (pg : Pg) : goodX ⟨9, sg, tx, st, cp, key, d, o, pg⟩ = ((sg != 0) && ((o == 1) || (o == 2)) && decide ((⟨9, sg, tx, st, cp, key, d, o, pg⟩ : Rx) = ⟨9, sg, 0, 0, false, (0, 0, 0), 0, o, noP⟩)) := by
 rw [Bool.eq_iff_iff]
 simp [goodX, kOk, kS, kT, kB, kA, kO, kP, stepB, addB, outB, progB]
 grind
end Go.Proofs.YtfdgnniicjdjdaaGreatDoor
