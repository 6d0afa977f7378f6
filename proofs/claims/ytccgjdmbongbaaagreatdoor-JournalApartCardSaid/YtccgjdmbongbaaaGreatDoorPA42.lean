import Derived.Test.YtccgjdmbongbaaaGreatDoorPA41
namespace Go.Proofs.YtccgjdmbongbaaaGreatDoor
open Go.RowKit Go.ChangeShapes Go.WideShapes
set_option linter.unusedVariables false
set_option linter.unusedSimpArgs false
set_option maxRecDepth 10000
theorem jget_cm {H : List Tv} {M : List Tc} {i : Int} {t : Tv} (h : H.map (·.c) = M) (hg : getT Tv.id H i = some t) : getT Tc.id M i = some t.c := by
 have h1 := map_getT (ix := Tv.id) (jx := Tc.id) (f := (·.c)) (fun _ => rfl) i H
 rw [h, hg] at h1
 exact h1.symm
theorem jget_cn {H : List Tv} {M : List Tc} {i : Int} (h : H.map (·.c) = M) (hg : getT Tv.id H i = none) : getT Tc.id M i = none := by
 have h1 := map_getT (ix := Tv.id) (jx := Tc.id) (f := (·.c)) (fun _ => rfl) i H
 rw [h, hg] at h1
 exact h1.symm
theorem app_fit {M : List Tc} {at_ : Int} {X : Rx} {c : Tc} (hg : goodX X = true) (h3 : 3 ≤ X.k ∧ X.k ≤ 7) (ht : getT Tc.id M X.tx = some c) :
 appC M at_ X = if fitB c X.k X.key X.d = true then (if X.k = 4 ∨ X.k = 7 then (witho Tc.id M X.tx, 0) else (withT Tc.id M (aftC c X.k X.key X.d (sizeX X)), 0)) else (M, 12) := by
 rw [appC_k hg h3 ht]
 unfold fitB aftC
 have hk : X.k = 3 ∨ X.k = 4 ∨ X.k = 5 ∨ X.k = 6 ∨ X.k = 7 := by omega
 rcases hk with hk | hk | hk | hk | hk
 · rw [hk]
   simp only [if_pos]
   cases hd : c.dd with
   | true => simp
   | false =>
    by_cases h6 : c.dn.length < 6
    · have h7 : ¬ 6 ≤ c.dn.length := by omega
      have h8 : (c.dn.length : Int) < 6 := by omega
      simp [h7, h8]
    · have h7 : 6 ≤ c.dn.length := by omega
      have h8 : ¬ (c.dn.length : Int) < 6 := by omega
      simp [h7, h8]
 · rw [hk]
   cases hd : c.dd <;> simp
 · rw [hk]
   cases hd : c.dd <;> simp
 · rw [hk]
   by_cases hl : lastC c = ((X.key, X.d), true)
   · simp [hl]
   · have : ¬ ((lastC c).2 = true ∧ (lastC c).1 = (X.key, X.d)) := fun e => hl (by rw [← e.1, ← e.2])
     simp [hl, this]
 · rw [hk]
   cases hd : c.dn with
   | nil => simp
   | cons o L => 
    have : ¬ ((L.length : Int) + 1 = 0) := by omega
    simp [this]
theorem fit_pos {t : Tv} {k d : Int} {key : K} (h : fitB t.c k key d = true) (hk : k = 6) (hl : t.c.dn.length = t.n) : 1 ≤ t.n := by
 unfold fitB at h
 rw [if_neg (by omega), if_neg (by omega), if_pos hk] at h
 rcases Nat.eq_zero_or_pos t.n with h0 | h0
 · rw [lastC_nil (by omega)] at h
   cases h
 · exact h0
set_option maxRecDepth 100000 in
set_option maxHeartbeats 8000000 in
theorem change_any (W : World) (B : Nat) (mb : Option Nat) (H : List Tv) (Q : Nat → Prop) (M : List Tc) (at_ : Int) (r : Rv) (h : JgX W B mb H Q) (hm : H.map (·.c) = M) (hM : JOk M) (hw : Words W) (hP : RvM W r [] [] []) (hok : Rxok (r.x [] [] [])) (hg : goodX (r.x [] [] []) = true) (hk : 3 ≤ r.k ∧ r.k ≤ 7) :
 Calls Tryz.prog 34 #[.pointer (some ⟨B, 0, none⟩), .agg (rcs r)] W fun e w' => e = .returned (.int .i64 (appC M at_ (r.x [] [] [])).2) ∧ ActX W B Q (appC M at_ (r.x [] [] [])).1 w' := by
 have hb0 : Below W.heap.size W (W.alloc (.cells (rcs r) 40)) := (Below.refl _ _).alloc (Nat.le_refl _) _
 have HB0 := Lib.hid hb0
 have HY : Hid (RB _ W.heap.size r) := Lib.hid (RB.new W r)
 have HJ := Lib.hid fun w' (hb : Below W.heap.size W w') => h.later hb
 have HJ0 := Lib.hid h
 have HM := Lib.hid hm
 have HW := Lib.hid fun w' (hb : Below W.heap.size W w') => hw.later hb
 have HTX : Hid (0 ≤ r.tx ∧ r.tx ≤ 4294967295) := Lib.hid hok.tx
 have HOK := Lib.hid hM
 have HP := Lib.hid hP
 have HR := Lib.hid hok
 have HG := Lib.hid hg
 have HK := Lib.hid hk
 obtain ⟨g, hgt⟩ : ∃ g, getT Tv.id H r.tx = g := ⟨_, rfl⟩
 have HGT := Lib.hid hgt
 obtain ⟨t, ht⟩ : ∃ t, g.getD tv0 = t := ⟨_, rfl⟩
 obtain ⟨q, hq⟩ : ∃ q, g.isSome = q := ⟨_, rfl⟩
 have HLK := Lib.hid fun w' (hj : JgX w' B mb H Q) => hj.look (x := r.tx) hok.tx (t := t) (by rw [hgt]; exact ht) (b := q) (by rw [hgt]; exact hq)
 have HTG := Lib.hid ht
 have HQG := Lib.hid hq
 obtain ⟨Y, hYE⟩ : ∃ Y, W.heap.size = Y := ⟨_, rfl⟩
 rw [hYE] at HY
 have HYW := Lib.hid hYE
 clear hb0 h hm hM hw hP hok hg hk hgt ht hq
 go_enter Tryz.func34, Tryz.ntmps34
 go_upto_region 1 with (fail)
 clear hYE
 generalize W.alloc (.cells (rcs r) 40) = V0 at *
 have hbd : JgX V0.drew B mb H Q ∧ RB V0.drew Y r := ⟨(HJ.out V0 HB0.out).later ((Below.refl V0.heap.size V0).drew), HY.out⟩
 have HB1 : Hid (Below W.heap.size W V0.drew) := Lib.hid (below_drewN HB0.out 1)
 go_wp2_with fail
 refine wp_region_held_drew (S := fun w' => Hid (JgX w' B mb H Q ∧ RB w' Y r)) (by kernel_rfl) (Lib.hid hbd) (fun hHeld => ?_)
 clear hbd HY HB0
 generalize V0.drew = V1 at *
 refine wpAnyH_take (i := 0) (oi := ⟨some 8, _, _, _, _, _⟩) (v := .pointer (some ⟨B, 0, none⟩)) rfl (by kernel_rfl) (by kernel_rfl) (by kernel_rfl) (fun _ _ _ h => h) (Or.inl ⟨by rfl, fun w' hw' => ?_⟩) (by assumption) ?_
 · clear hHeld
   go_simp
 simp only [Act.put, List.setIfInBounds_toArray, List.set_cons_zero, List.set_cons_succ]
 refine wpAnyH_take (i := 1) (oi := ⟨some 9, _, _, _, _, _⟩) (v := .pointer (some ⟨B, 0, none⟩)) rfl (by kernel_rfl) (by kernel_rfl) (by kernel_rfl) (fun _ _ _ h => h) (Or.inl ⟨by rfl, fun w' hw' => ?_⟩) (by assumption) ?_
 · clear hHeld
   go_simp
 simp only [Act.put, List.setIfInBounds_toArray, List.set_cons_zero, List.set_cons_succ]
 refine wpAnyH_take (i := 2) (oi := ⟨some 10, _, _, _, _, _⟩) (v := .pointer (some ⟨B, 0, none⟩)) rfl (by kernel_rfl) (by kernel_rfl) (by kernel_rfl) (fun _ _ _ h => h) (Or.inl ⟨by rfl, fun w' hw' => ?_⟩) (by assumption) ?_
 · clear hHeld
   go_simp
 simp only [Act.put, List.setIfInBounds_toArray, List.set_cons_zero, List.set_cons_succ]
 refine wpAnyH_take (i := 3) (oi := ⟨some 11, _, _, _, _, _⟩) (v := .map mb) rfl (by kernel_rfl) (by kernel_rfl) (by kernel_rfl) (fun _ _ _ h => h) (Or.inl ⟨by rfl, fun w' hw' => ?_⟩) (by assumption) ?_
 · have c0 := block_cell (j := 0) hw'.out.1.b (v := .map mb) rfl
   clear hHeld
   go_simp
 simp only [Act.put, List.setIfInBounds_toArray, List.set_cons_zero, List.set_cons_succ]
 refine wpAnyH_take (i := 4) (oi := ⟨some 12, _, _, _, _, _⟩) (v := .pointer (some ⟨Y, 2, none⟩)) rfl (by kernel_rfl) (by kernel_rfl) (by kernel_rfl) (fun _ _ _ h => h) (Or.inl ⟨by rfl, fun w' hw' => ?_⟩) (by assumption) ?_
 · clear hHeld
   go_simp
 simp only [Act.put, List.setIfInBounds_toArray, List.set_cons_zero, List.set_cons_succ]
 refine wpAnyH_take (i := 5) (oi := ⟨some 13, _, _, _, _, _⟩) (v := .int .u32 r.tx) rfl (by kernel_rfl) (by kernel_rfl) (by kernel_rfl) (fun _ _ _ h => h) (Or.inl ⟨by rfl, fun w' hw' => ?_⟩) (by assumption) ?_
 · have y2 := block_cell (j := 2) hw'.out.2 (v := .int .u32 r.tx) rfl
   clear hHeld
   go_simp
 simp only [Act.put, List.setIfInBounds_toArray, List.set_cons_zero, List.set_cons_succ]
 refine wpAnyH_take (i := 6) (oi := ⟨some 14, _, _, _, _, _⟩) (v := .tuple #[.agg #[.int .u32 t.c.id, .int .u32 t.c.sg, .int .u8 t.c.st, .bool t.c.cp, .bool t.c.dd, .slice t.p t.n t.m, .int .i64 t.c.fs, .int .i64 t.c.sz], .bool q]) rfl (by kernel_rfl) (by kernel_rfl) (by kernel_rfl) (fun _ _ _ h => h) (Or.inl ⟨by rfl, fun w' hw' => ?_⟩) (by assumption) ?_
 · have c0 := HLK.out w' hw'.out.1
   clear hHeld
   go_simp
 simp only [Act.put, List.setIfInBounds_toArray, List.set_cons_zero, List.set_cons_succ]
 refine wpAnyH_take (i := 7) (oi := ⟨some 7, _, _, _, _, _⟩) (v := .tuple #[.agg #[.int .u32 t.c.id, .int .u32 t.c.sg, .int .u8 t.c.st, .bool t.c.cp, .bool t.c.dd, .slice t.p t.n t.m, .int .i64 t.c.fs, .int .i64 t.c.sz], .bool q]) rfl (by kernel_rfl) (by kernel_rfl) (by kernel_rfl) (fun _ _ _ h => h) (Or.inl ⟨by rfl, fun w' hw' => ?_⟩) (by assumption) ?_
 · clear hHeld
   go_simp
 simp only [Act.put, List.setIfInBounds_toArray, List.set_cons_zero, List.set_cons_succ]
 refine wpAnyH_take (i := 8) (oi := ⟨some 15, _, _, _, _, _⟩) (v := .agg #[.int .u32 t.c.id, .int .u32 t.c.sg, .int .u8 t.c.st, .bool t.c.cp, .bool t.c.dd, .slice t.p t.n t.m, .int .i64 t.c.fs, .int .i64 t.c.sz]) rfl (by kernel_rfl) (by kernel_rfl) (by kernel_rfl) (fun _ _ _ h => h) (Or.inl ⟨by rfl, fun w' hw' => ?_⟩) (by assumption) ?_
 · clear hHeld
   go_simp
 simp only [Act.put, List.setIfInBounds_toArray, List.set_cons_zero, List.set_cons_succ]
 refine wpAnyH_take (i := 9) (oi := ⟨some 16, _, _, _, _, _⟩) (v := .bool q) rfl (by kernel_rfl) (by kernel_rfl) (by kernel_rfl) (fun _ _ _ h => h) (Or.inl ⟨by rfl, fun w' hw' => ?_⟩) (by assumption) ?_
 · clear hHeld
   go_simp
 simp only [Act.put, List.setIfInBounds_toArray, List.set_cons_zero, List.set_cons_succ]
 refine wpAnyH_ready (rs := [10]) (by kernel_rfl) (by simp) (AllReadyH.cons rfl (fun K hK => ?_) (AllReadyH.nil))
 have hal : Below V1.heap.size V1 (V1.alloc (.cells #[.int .u32 0, .int .u32 0, .int .u8 0, .bool false, .bool false, .slice none 0 0, .int .i64 0, .int .i64 0] 47)) := (Below.refl _ _).alloc (Nat.le_refl _) _
 have hSN : Hid (JgX (V1.alloc (.cells #[.int .u32 0, .int .u32 0, .int .u8 0, .bool false, .bool false, .slice none 0 0, .int .i64 0, .int .i64 0] 47)) B mb H Q ∧ RB (V1.alloc (.cells #[.int .u32 0, .int .u32 0, .int .u8 0, .bool false, .bool false, .slice none 0 0, .int .i64 0, .int .i64 0] 47)) Y r) := Lib.hid ⟨hHeld.out.1.later hal, hHeld.out.2.later hal⟩
 have HTZ := Lib.hid (alloc_block V1 (.cells #[.int .u32 0, .int .u32 0, .int .u8 0, .bool false, .bool false, .slice none 0 0, .int .i64 0, .int .i64 0] 47))
 have HB2 := Lib.hid (HB1.out.trans (hal.mono HB1.out.size))
 have HTW := Lib.hid HB1.out.size
 have HTJ : Hid (∀ j, Q j → j ≠ V1.heap.size) := Lib.hid fun j hj => by have := hHeld.out.1.lt j hj; omega
 have HTY : Hid (Y ≠ V1.heap.size) := Lib.hid (by have := block_lt hHeld.out.2; omega)
 clear hal
 go_simp
 go_wp2_with fail
 refine hK.out _ _ hSN (fun hHeld2 => ?_)
 try simp only [Act.put, List.setIfInBounds_toArray, List.set_cons_zero, List.set_cons_succ]
 clear hSN hK K hHeld
 have hHeld := hHeld2
 clear hHeld2
 generalize V1.alloc (.cells #[.int .u32 0, .int .u32 0, .int .u8 0, .bool false, .bool false, .slice none 0 0, .int .i64 0, .int .i64 0] 47) = V2 at *
 generalize V1.heap.size = T at *
 refine wpAnyH_ready (rs := [11]) (by kernel_rfl) (by simp) (AllReadyH.cons rfl (fun K hK => ?_) (AllReadyH.nil))
 obtain ⟨z0, z1, z2, z3, z4, z5, z6, z7⟩ := txv_cells HTZ.out
 obtain ⟨f0, f1, f2, f3, f4, f5, f6, f7⟩ := txfree HTZ.out
 have HT3 := Lib.hid (tstored (a' := .int .u32 t.c.id) (b' := .int .u32 t.c.sg) (c' := .int .u8 t.c.st) (d' := .bool t.c.cp) (e' := .bool t.c.dd) (f' := .slice t.p t.n t.m) (g' := .int .i64 t.c.fs) (h' := .int .i64 t.c.sz) HTZ.out)
 have hch := tchg V2 T (.int .u32 t.c.id) (.int .u32 t.c.sg) (.int .u8 t.c.st) (.bool t.c.cp) (.bool t.c.dd) (.slice t.p t.n t.m) (.int .i64 t.c.fs) (.int .i64 t.c.sz)
 have htt : Turn (fun k => k = T) V2 ((((((((V2.setCell ⟨T, 0, none⟩ (.int .u32 t.c.id)).setCell ⟨T, 1, none⟩ (.int .u32 t.c.sg)).setCell ⟨T, 2, none⟩ (.int .u8 t.c.st)).setCell ⟨T, 3, none⟩ (.bool t.c.cp)).setCell ⟨T, 4, none⟩ (.bool t.c.dd)).setCell ⟨T, 5, none⟩ (.slice t.p t.n t.m)).setCell ⟨T, 6, none⟩ (.int .i64 t.c.fs)).setCell ⟨T, 7, none⟩ (.int .i64 t.c.sz)) := ⟨hch.os, hch.tape, hch.output, hch.size, hch.block⟩
 have hSN : Hid (JgX ((((((((V2.setCell ⟨T, 0, none⟩ (.int .u32 t.c.id)).setCell ⟨T, 1, none⟩ (.int .u32 t.c.sg)).setCell ⟨T, 2, none⟩ (.int .u8 t.c.st)).setCell ⟨T, 3, none⟩ (.bool t.c.cp)).setCell ⟨T, 4, none⟩ (.bool t.c.dd)).setCell ⟨T, 5, none⟩ (.slice t.p t.n t.m)).setCell ⟨T, 6, none⟩ (.int .i64 t.c.fs)).setCell ⟨T, 7, none⟩ (.int .i64 t.c.sz)) B mb H Q ∧ RB ((((((((V2.setCell ⟨T, 0, none⟩ (.int .u32 t.c.id)).setCell ⟨T, 1, none⟩ (.int .u32 t.c.sg)).setCell ⟨T, 2, none⟩ (.int .u8 t.c.st)).setCell ⟨T, 3, none⟩ (.bool t.c.cp)).setCell ⟨T, 4, none⟩ (.bool t.c.dd)).setCell ⟨T, 5, none⟩ (.slice t.p t.n t.m)).setCell ⟨T, 6, none⟩ (.int .i64 t.c.fs)).setCell ⟨T, 7, none⟩ (.int .i64 t.c.sz)) Y r) := Lib.hid ⟨hHeld.out.1.keep htt (fun j hj e => HTJ.out j hj e), (hch.block Y (block_lt hHeld.out.2) HTY.out).trans hHeld.out.2⟩
 have HB3 := Lib.hid (tkept HB2.out HTW.out (.int .u32 t.c.id) (.int .u32 t.c.sg) (.int .u8 t.c.st) (.bool t.c.cp) (.bool t.c.dd) (.slice t.p t.n t.m) (.int .i64 t.c.fs) (.int .i64 t.c.sz))
 clear hch htt
 go_simp
 go_wp2_with fail
 refine hK.out _ _ hSN (fun hHeld2 => ?_)
 try simp only [Act.put, List.setIfInBounds_toArray, List.set_cons_zero, List.set_cons_succ]
 clear hSN hK K hHeld
 have hHeld := hHeld2
 clear hHeld2
 clear z0 z1 z2 z3 z4 z5 z6 z7 f0 f1 f2 f3 f4 f5 f6 f7
 refine wpAnyH_take (i := 12) (oi := ⟨some 6, _, _, _, _, _⟩) (v := .bool q) rfl (by kernel_rfl) (by kernel_rfl) (by kernel_rfl) (fun _ _ _ h => h) (Or.inl ⟨by rfl, fun w' hw' => ?_⟩) (by assumption) ?_
 · clear hHeld
   go_simp
 simp only [Act.put, List.setIfInBounds_toArray, List.set_cons_zero, List.set_cons_succ]
 refine wpAnyH_done (by kernel_rfl) ?_ _
 have HY3 := Lib.hid hHeld.out.2
 clear hHeld HTZ HB2 HB1
 generalize ((((((((V2.setCell ⟨T, 0, none⟩ (.int .u32 t.c.id)).setCell ⟨T, 1, none⟩ (.int .u32 t.c.sg)).setCell ⟨T, 2, none⟩ (.int .u8 t.c.st)).setCell ⟨T, 3, none⟩ (.bool t.c.cp)).setCell ⟨T, 4, none⟩ (.bool t.c.dd)).setCell ⟨T, 5, none⟩ (.slice t.p t.n t.m)).setCell ⟨T, 6, none⟩ (.int .i64 t.c.fs)).setCell ⟨T, 7, none⟩ (.int .i64 t.c.sz)) = V3 at *
 cases g with
 | none =>
  obtain rfl : q = false := HQG.out.symm
  have HAP : Hid (appC M at_ (r.x [] [] []) = (M, 10)) := Lib.hid (appC_n M _ HG.out HK.out (jget_cn HM.out HGT.out))
  go_wp2_with fail
  go_ret
  exact ⟨by rw [HAP.out]; rfl, by rw [HAP.out]; exact ActX.stay HJ0.out HM.out HB3.out⟩
 | some t0 =>
  obtain rfl : t0 = t := HTG.out
  obtain rfl : q = true := HQG.out.symm
  have HMEM := Lib.hid (getT_mem HGT.out)
  have HAP := Lib.hid (app_fit (at_ := at_) HG.out HK.out (jget_cm HM.out HGT.out))
  have hc := List.mem_map_of_mem (f := (·.c)) HMEM.out.1
  rw [HM.out] at hc
  have HTO := Lib.hid (HOK.out.ok _ hc)
  have hlen := HOK.out.few _ hc
  have HTS := Lib.hid (HOK.out.sz _ hc)
  have HTN : Hid (t0.n ≤ 20) := Lib.hid (by rw [← (HJ0.out.own t0 HMEM.out.1).len]; exact hlen)
  clear hc hlen
  obtain ⟨fb, hfb⟩ : ∃ b, fitB t0.c r.k (r.ka, r.kb, r.kc) r.d = b := ⟨_, rfl⟩
  have HFB := Lib.hid hfb
  have HFIT := Lib.hid (jfits_any t0 r V3 ((HJ.out V3 HB3.out).own t0 HMEM.out.1).m HTO.out.dn (by have := HTN.out; omega) HK.out)
  rw [hfb] at HFIT
  clear hfb
  have HT3' : Hid (V3.heap[T]? = some (.cells #[.int .u32 t0.c.id, .int .u32 t0.c.sg, .int .u8 t0.c.st, .bool t0.c.cp, .bool t0.c.dd, .slice t0.p t0.n t0.m, .int .i64 t0.c.fs, .int .i64 t0.c.sz] 47 (0, 0))) := HT3
  obtain ⟨x0, x1, x2, x3, x4, x5, x6, x7⟩ := txv_cells HT3'.out
  go_wp2_with ((with_reducible refine wpList_load_rc HY3.out ?_ ?_); rfl)
  clear x0 x1 x2 x3 x4 x5 x6 x7
  refine HFIT.out.mono ?_
  rintro e5 w5 ⟨rfl, hb5⟩
  have HB5 := Lib.hid (HB3.out.trans (hb5.mono HB3.out.size))
  have HY5 := Lib.hid (HY3.out.later hb5)
  have HT5 := Lib.hid (block_later HT3'.out hb5)
  clear hb5 HFIT HY3 HT3 HT3'
  cases fb with
  | false =>
   have HAF : Hid (appC M at_ (r.x [] [] []) = (M, 12)) := Lib.hid (by rw [HAP.out]; exact if_neg (by rw [show fitB t0.c (r.x [] [] []).k (r.x [] [] []).key (r.x [] [] []).d = false from HFB.out]; decide))
   go_wp2_with fail
   go_ret
   exact ⟨by rw [HAF.out]; rfl, by rw [HAF.out]; exact ActX.stay HJ0.out HM.out HB5.out⟩
  | true =>
   have HAF : Hid (appC M at_ (r.x [] [] []) = (if r.k = 4 ∨ r.k = 7 then (witho Tc.id M r.tx, 0) else (withT Tc.id M (aftC t0.c r.k (r.ka, r.kb, r.kc) r.d (sizeX (r.x [] [] []))), 0))) := Lib.hid (by rw [HAP.out]; exact if_pos HFB.out)
   clear HAP
   have hy0 := block_cell (j := 0) HY5.out (v := .int .u8 r.k) rfl
   have hkk : r.k = 3 ∨ r.k = 4 ∨ r.k = 5 ∨ r.k = 6 ∨ r.k = 7 := by have := HK.out; omega
   rcases hkk with hk | hk | hk | hk | hk
   · have HAD : Hid (appC M at_ (r.x [] [] []) = (withT Tc.id M (aftC t0.c 3 (r.ka, r.kb, r.kc) r.d (sizeX (r.x [] [] []))), 0)) := Lib.hid (by rw [HAF.out, if_neg (by omega), hk])
     have HSZ := Lib.hid (size_few HG.out)
     have HAFT := Lib.hid (after_3 t0 r w5 (HW.out w5 HB5.out) ((HJ.out w5 HB5.out).own t0 HMEM.out.1) (by have := HTN.out; omega) hk (rvm_any HP.out w5) HR.out (sizeX (r.x [] [] [])) rfl ⟨HTS.out.1, HSZ.out.1, by have h1 := HTS.out.2; have h2 := HSZ.out.2; omega⟩ (fun e => by omega))
     generalize sizeX (r.x [] [] []) = s at *
     rw [hk] at hy0
     clear HAF hk
     obtain ⟨x0, x1, x2, x3, x4, x5, x6, x7⟩ := txv_cells HT5.out
     go_wp2_with ((with_reducible refine wpList_load_rc HY5.out ?_ ?_); rfl)
     clear x0 x1 x2 x3 x4 x5 x6 x7 hy0
     refine HAFT.out.mono ?_
     rintro e6 w6 ⟨p6, n6, m6, rfl, hown6, htn6, hblk6⟩
     have HID : Hid ((aftC t0.c 3 (r.ka, r.kb, r.kc) r.d s).id = t0.c.id) := Lib.hid rfl
     have HTN6 := Lib.hid htn6
     have HBL6 := Lib.hid hblk6
     have hj5 := HJ.out w5 HB5.out
     have hy6 := (hj5.y t0.c.id).keep htn6 (fun e => (hj5.nm (hj5.own t0 HMEM.out.1) e).2 rfl) (fun b hb e => (hj5.nm (hj5.own t0 HMEM.out.1) e).1 hb) (fun u hu hi g hg e => hj5.apart t0 HMEM.out.1 u hu (fun e' => hi e'.symm) g e hg)
     have HPUT := Lib.hid (jput_any (⟨aftC t0.c 3 (r.ka, r.kb, r.kc) r.d s, p6, n6, m6⟩ : Tv) HTO.out.id w6 B mb H Q hy6 (by have h1 := HOK.out.len; rw [← HM.out, List.length_map] at h1; omega) hown6 (fun g hg u hu hi e => by
      rcases hblk6 g hg with h1 | h1
      · exact hj5.apart t0 HMEM.out.1 u hu (fun e' => hi e'.symm) g h1 e
      · have h2 := (hj5.own u hu).lt e
        omega))
     have HBW : Hid (∀ g, (⟨aftC t0.c 3 (r.ka, r.kb, r.kc) r.d s, p6, n6, m6⟩ : Tv).blk = some g → Q g ∨ W.heap.size ≤ g) := Lib.hid fun g hg => by
      rcases hblk6 g hg with h1 | h1
      · exact .inl (HJ0.out.qr t0 HMEM.out.1 g h1)
      · exact .inr (Nat.le_trans HB5.out.size h1)
     have HTT : Hid (Turn Q W w6) := Lib.hid ((Turn.of_below HB5.out).trans htn6 fun k _ e => HJ0.out.qr t0 HMEM.out.1 k e)
     clear hown6 htn6 hblk6 hj5 hy6 HAFT
     generalize aftC t0.c 3 (r.ka, r.kb, r.kc) r.d s = c6 at *
     go_wp2_with fail
     refine HPUT.out.mono ?_
     rintro e7 w7 ⟨rfl, hput⟩
     have HACT := Lib.hid (ActX.put (t := ⟨c6, p6, n6, m6⟩) HJ0.out HM.out HTT.out hput HBW.out)
     clear hput HPUT
     go_wp2_with fail
     go_ret
     exact ⟨by rw [HAD.out]; rfl, by rw [HAD.out]; exact HACT.out⟩
   · have HAD : Hid (appC M at_ (r.x [] [] []) = (witho Tc.id M r.tx, 0)) := Lib.hid (by rw [HAF.out, if_pos (by omega)])
     rw [hk] at hy0
     clear HAF hk
     cases mb with
     | none =>
      have h1 := HJ0.out.none_ rfl
      have h2 := HMEM.out.1
      rw [h1] at h2
      cases h2
     | some b =>
      have hj5 := HJ.out w5 HB5.out
      obtain ⟨D, hown, hT⟩ := hj5.some_ b rfl
      have HOW := Lib.hid hown
      have HT := Lib.hid hT
      have HJ5 := Lib.hid hj5
      clear hown hT hj5
      have c0 := block_cell (j := 0) HJ5.out.b (v := .map (some b)) rfl
      have y2 := block_cell (j := 2) HY5.out (v := .int .u32 r.tx) rfl
      go_wp2_with fail
      go_still_tail 6, (by kernel_rfl)
      repeat still_step
      change wpList _ _ _ _ _ w5.drew
      refine wpList_delete_own _ rfl _ _ _ _ rfl _ txLaw Tryz.underlying60 txElem b H.length D rfl HOW.out.drew _ (kU r.tx) rfl (kU_reads (wf_u32 HTX.out)) fun w6 r1 r2 => ?_
      have htn : Turn (fun k => k = b) w5 w6 := (Turn.of_grown (S := fun k => k = b) r2.grown fun k e => by cases e; rfl).drewl
      have HACT : Hid (ActX W B Q (witho Tc.id M r.tx) w6) := Lib.hid ⟨some b, _, Q, HJ5.out.struck htn r1 (HT.out.del HJ0.out.up (by rw [HGT.out]; rfl)), by rw [map_witho (ix := Tv.id) (jx := Tc.id) (f := (·.c)) (fun _ => rfl), HM.out], fun j hj => .inl hj, (Turn.of_below HB5.out).trans htn fun k _ e => by rw [e]; exact HJ0.out.qm b rfl⟩
      clear r1 r2 htn c0 y2 hy0
      go_wp2_with fail
      go_ret
      exact ⟨by rw [HAD.out]; rfl, by rw [HAD.out]; exact HACT.out⟩
   · have HAD : Hid (appC M at_ (r.x [] [] []) = (withT Tc.id M (aftC t0.c 5 (r.ka, r.kb, r.kc) r.d (sizeX (r.x [] [] []))), 0)) := Lib.hid (by rw [HAF.out, if_neg (by omega), hk])
     have HSZ := Lib.hid (size_few HG.out)
     have HAFT := Lib.hid (after_5 t0 r w5 (HW.out w5 HB5.out) ((HJ.out w5 HB5.out).own t0 HMEM.out.1) (by have := HTN.out; omega) hk (rvm_any HP.out w5) HR.out (sizeX (r.x [] [] [])) rfl ⟨HTS.out.1, HSZ.out.1, by have h1 := HTS.out.2; have h2 := HSZ.out.2; omega⟩ (fun e => by omega))
     generalize sizeX (r.x [] [] []) = s at *
     rw [hk] at hy0
     clear HAF hk
     obtain ⟨x0, x1, x2, x3, x4, x5, x6, x7⟩ := txv_cells HT5.out
     go_wp2_with ((with_reducible refine wpList_load_rc HY5.out ?_ ?_); rfl)
     clear x0 x1 x2 x3 x4 x5 x6 x7 hy0
     refine HAFT.out.mono ?_
     rintro e6 w6 ⟨p6, n6, m6, rfl, hown6, htn6, hblk6⟩
     have HID : Hid ((aftC t0.c 5 (r.ka, r.kb, r.kc) r.d s).id = t0.c.id) := Lib.hid rfl
     have HTN6 := Lib.hid htn6
     have HBL6 := Lib.hid hblk6
     have hj5 := HJ.out w5 HB5.out
     have hy6 := (hj5.y t0.c.id).keep htn6 (fun e => (hj5.nm (hj5.own t0 HMEM.out.1) e).2 rfl) (fun b hb e => (hj5.nm (hj5.own t0 HMEM.out.1) e).1 hb) (fun u hu hi g hg e => hj5.apart t0 HMEM.out.1 u hu (fun e' => hi e'.symm) g e hg)
     have HPUT := Lib.hid (jput_any (⟨aftC t0.c 5 (r.ka, r.kb, r.kc) r.d s, p6, n6, m6⟩ : Tv) HTO.out.id w6 B mb H Q hy6 (by have h1 := HOK.out.len; rw [← HM.out, List.length_map] at h1; omega) hown6 (fun g hg u hu hi e => by
      rcases hblk6 g hg with h1 | h1
      · exact hj5.apart t0 HMEM.out.1 u hu (fun e' => hi e'.symm) g h1 e
      · have h2 := (hj5.own u hu).lt e
        omega))
     have HBW : Hid (∀ g, (⟨aftC t0.c 5 (r.ka, r.kb, r.kc) r.d s, p6, n6, m6⟩ : Tv).blk = some g → Q g ∨ W.heap.size ≤ g) := Lib.hid fun g hg => by
      rcases hblk6 g hg with h1 | h1
      · exact .inl (HJ0.out.qr t0 HMEM.out.1 g h1)
      · exact .inr (Nat.le_trans HB5.out.size h1)
     have HTT : Hid (Turn Q W w6) := Lib.hid ((Turn.of_below HB5.out).trans htn6 fun k _ e => HJ0.out.qr t0 HMEM.out.1 k e)
     clear hown6 htn6 hblk6 hj5 hy6 HAFT
     generalize aftC t0.c 5 (r.ka, r.kb, r.kc) r.d s = c6 at *
     go_wp2_with fail
     refine HPUT.out.mono ?_
     rintro e7 w7 ⟨rfl, hput⟩
     have HACT := Lib.hid (ActX.put (t := ⟨c6, p6, n6, m6⟩) HJ0.out HM.out HTT.out hput HBW.out)
     clear hput HPUT
     go_wp2_with fail
     go_ret
     exact ⟨by rw [HAD.out]; rfl, by rw [HAD.out]; exact HACT.out⟩
   · have HAD : Hid (appC M at_ (r.x [] [] []) = (withT Tc.id M (aftC t0.c 6 (r.ka, r.kb, r.kc) r.d (sizeX (r.x [] [] []))), 0)) := Lib.hid (by rw [HAF.out, if_neg (by omega), hk])
     have HSZ := Lib.hid (size_few HG.out)
     have HAFT := Lib.hid (after_6 t0 r w5 (HW.out w5 HB5.out) ((HJ.out w5 HB5.out).own t0 HMEM.out.1) (by have := HTN.out; omega) hk (rvm_any HP.out w5) HR.out (sizeX (r.x [] [] [])) rfl ⟨HTS.out.1, HSZ.out.1, by have h1 := HTS.out.2; have h2 := HSZ.out.2; omega⟩ (fun e => fit_pos HFB.out hk (HJ0.out.own t0 HMEM.out.1).len))
     generalize sizeX (r.x [] [] []) = s at *
     rw [hk] at hy0
     clear HAF hk
     obtain ⟨x0, x1, x2, x3, x4, x5, x6, x7⟩ := txv_cells HT5.out
     go_wp2_with ((with_reducible refine wpList_load_rc HY5.out ?_ ?_); rfl)
     clear x0 x1 x2 x3 x4 x5 x6 x7 hy0
     refine HAFT.out.mono ?_
     rintro e6 w6 ⟨p6, n6, m6, rfl, hown6, htn6, hblk6⟩
     have HID : Hid ((aftC t0.c 6 (r.ka, r.kb, r.kc) r.d s).id = t0.c.id) := Lib.hid rfl
     have HTN6 := Lib.hid htn6
     have HBL6 := Lib.hid hblk6
     have hj5 := HJ.out w5 HB5.out
     have hy6 := (hj5.y t0.c.id).keep htn6 (fun e => (hj5.nm (hj5.own t0 HMEM.out.1) e).2 rfl) (fun b hb e => (hj5.nm (hj5.own t0 HMEM.out.1) e).1 hb) (fun u hu hi g hg e => hj5.apart t0 HMEM.out.1 u hu (fun e' => hi e'.symm) g e hg)
     have HPUT := Lib.hid (jput_any (⟨aftC t0.c 6 (r.ka, r.kb, r.kc) r.d s, p6, n6, m6⟩ : Tv) HTO.out.id w6 B mb H Q hy6 (by have h1 := HOK.out.len; rw [← HM.out, List.length_map] at h1; omega) hown6 (fun g hg u hu hi e => by
      rcases hblk6 g hg with h1 | h1
      · exact hj5.apart t0 HMEM.out.1 u hu (fun e' => hi e'.symm) g h1 e
      · have h2 := (hj5.own u hu).lt e
        omega))
     have HBW : Hid (∀ g, (⟨aftC t0.c 6 (r.ka, r.kb, r.kc) r.d s, p6, n6, m6⟩ : Tv).blk = some g → Q g ∨ W.heap.size ≤ g) := Lib.hid fun g hg => by
      rcases hblk6 g hg with h1 | h1
      · exact .inl (HJ0.out.qr t0 HMEM.out.1 g h1)
      · exact .inr (Nat.le_trans HB5.out.size h1)
     have HTT : Hid (Turn Q W w6) := Lib.hid ((Turn.of_below HB5.out).trans htn6 fun k _ e => HJ0.out.qr t0 HMEM.out.1 k e)
     clear hown6 htn6 hblk6 hj5 hy6 HAFT
     generalize aftC t0.c 6 (r.ka, r.kb, r.kc) r.d s = c6 at *
     go_wp2_with fail
     refine HPUT.out.mono ?_
     rintro e7 w7 ⟨rfl, hput⟩
     have HACT := Lib.hid (ActX.put (t := ⟨c6, p6, n6, m6⟩) HJ0.out HM.out HTT.out hput HBW.out)
     clear hput HPUT
     go_wp2_with fail
     go_ret
     exact ⟨by rw [HAD.out]; rfl, by rw [HAD.out]; exact HACT.out⟩
   · have HAD : Hid (appC M at_ (r.x [] [] []) = (witho Tc.id M r.tx, 0)) := Lib.hid (by rw [HAF.out, if_pos (by omega)])
     rw [hk] at hy0
     clear HAF hk
     cases mb with
     | none =>
      have h1 := HJ0.out.none_ rfl
      have h2 := HMEM.out.1
      rw [h1] at h2
      cases h2
     | some b =>
      have hj5 := HJ.out w5 HB5.out
      obtain ⟨D, hown, hT⟩ := hj5.some_ b rfl
      have HOW := Lib.hid hown
      have HT := Lib.hid hT
      have HJ5 := Lib.hid hj5
      clear hown hT hj5
      have c0 := block_cell (j := 0) HJ5.out.b (v := .map (some b)) rfl
      have y2 := block_cell (j := 2) HY5.out (v := .int .u32 r.tx) rfl
      go_wp2_with fail
      go_still_tail 6, (by kernel_rfl)
      repeat still_step
      change wpList _ _ _ _ _ w5.drew
      refine wpList_delete_own _ rfl _ _ _ _ rfl _ txLaw Tryz.underlying60 txElem b H.length D rfl HOW.out.drew _ (kU r.tx) rfl (kU_reads (wf_u32 HTX.out)) fun w6 r1 r2 => ?_
      have htn : Turn (fun k => k = b) w5 w6 := (Turn.of_grown (S := fun k => k = b) r2.grown fun k e => by cases e; rfl).drewl
      have HACT : Hid (ActX W B Q (witho Tc.id M r.tx) w6) := Lib.hid ⟨some b, _, Q, HJ5.out.struck htn r1 (HT.out.del HJ0.out.up (by rw [HGT.out]; rfl)), by rw [map_witho (ix := Tv.id) (jx := Tc.id) (f := (·.c)) (fun _ => rfl), HM.out], fun j hj => .inl hj, (Turn.of_below HB5.out).trans htn fun k _ e => by rw [e]; exact HJ0.out.qm b rfl⟩
      clear r1 r2 htn c0 y2 hy0
      go_wp2_with fail
      go_ret
      exact ⟨by rw [HAD.out]; rfl, by rw [HAD.out]; exact HACT.out⟩
theorem jget_s {H : List Tv} {M : List Tc} (h : H.map (·.c) = M) (i : Int) : (getT Tc.sg M i).isSome = (getT Tv.sg H i).isSome := by
 have h1 := map_getT (ix := Tv.sg) (jx := Tc.sg) (f := (·.c)) (fun _ => rfl) i H
 rw [h] at h1
 rw [← h1]
 cases getT Tv.sg H i <;> rfl
theorem app_out (M : List Tc) (at_ : Int) (X : Rx) (h : goodX X = false ∨ X.k < 2 ∨ 7 < X.k) : appC M at_ X = (M, 1) := if_pos h
set_option maxRecDepth 100000 in
set_option maxHeartbeats 8000000 in
theorem japply_any (W : World) (B : Nat) (M : List Tc) (Q : Nat → Prop) (at_ : Int) (r : Rv) (La : List Ln) (Ta : List Tk) (Ma : List Ln) (hw : Words W) (hj : Jg W B M Q) (hM : JOk M) (ha : In64 at_) (hP : RvM W r La Ta Ma) (hok : Rxok (r.x La Ta Ma)) (hs : SmV r) :
 Calls Tryz.prog 12 #[.pointer (some ⟨B, 0, none⟩), .int .i64 at_, .agg (rcs r)] W fun e w' => e = .returned (.int .i64 (appC M at_ (r.x La Ta Ma)).2) ∧ JActed Jg W w' B (appC M at_ (r.x La Ta Ma)).1 Q := by
 obtain ⟨mb, H, hx, hm⟩ := hj
 have hb0 : Below W.heap.size W (W.alloc (.cells (rcs r) 40)) := (Below.refl _ _).alloc (Nat.le_refl _) _
 have HB0 := Lib.hid hb0
 have HY : Hid (RB _ W.heap.size r) := Lib.hid (RB.new W r)
 have HJ := Lib.hid hx
 have HM := Lib.hid hm
 have HOK := Lib.hid hM
 have HW := Lib.hid fun w' (hb : Below W.heap.size W w') => hw.later hb
 have HGD := Lib.hid fun w' (hb : Below W.heap.size W w') => rec_good r La Ta Ma w' (hw.later hb) (hP.later hb) hok ⟨by have := hs.1; omega, by have := hs.2.1; omega, by have := hs.2.2; omega⟩
 have HP := Lib.hid hP
 have HR := Lib.hid hok
 have HA := Lib.hid ha
 obtain ⟨gd, hgd⟩ : ∃ g, goodX (r.x La Ta Ma) = g := ⟨_, rfl⟩
 have HG := Lib.hid hgd
 rw [hgd] at HGD
 obtain ⟨Y, hYE⟩ : ∃ Y, W.heap.size = Y := ⟨_, rfl⟩
 rw [hYE] at HY
 have HYW := Lib.hid hYE
 clear hb0 hx hm hM hw hP hok ha hs hgd
 go_enter Tryz.func12, Tryz.ntmps12
 go_upto_region 1 with (fail)
 clear hYE
 generalize W.alloc (.cells (rcs r) 40) = V0 at *
 go_wp2_with ((with_reducible refine wpList_load_rcg HY.out ?_ ?_ ?_); rfl; rfl)
 refine (HGD.out _ HB0.out).mono ?_
 rintro e1 w1 ⟨rfl, hb1⟩
 have HB1 := Lib.hid (HB0.out.trans (hb1.mono HB0.out.size))
 have HY2 := Lib.hid (HY.out.later hb1)
 clear hb1 HGD HY
 cases gd with
 | false =>
  have HAP := Lib.hid (app_out M at_ _ (.inl HG.out))
  go_wp2_with fail
  go_ret
  exact ⟨by rw [HAP.out]; rfl, by rw [HAP.out]; exact (ActX.stay HJ.out HM.out HB1.out).act⟩
 | true =>
  have hkk : r.k = 1 ∨ r.k = 2 ∨ r.k = 3 ∨ r.k = 4 ∨ r.k = 5 ∨ r.k = 6 ∨ r.k = 7 ∨ r.k = 8 ∨ r.k = 9 := kOk_cases (goodX_kOk HG.out)
  have hy0 := block_cell (j := 0) HY2.out (v := .int .u8 r.k) rfl
  rcases hkk with hk | hk | hk | hk | hk | hk | hk | hk | hk
  · have HAP := Lib.hid (app_out M at_ (r.x La Ta Ma) (.inr (by rw [show (r.x La Ta Ma).k = r.k from rfl, hk]; omega)))
    rw [hk] at hy0
    clear hk
    go_wp2_with fail
    go_ret
    exact ⟨by rw [HAP.out]; rfl, by rw [HAP.out]; exact (ActX.stay HJ.out HM.out HB1.out).act⟩
  · obtain ⟨rfl, rfl, rfl⟩ := good_no HG.out (by omega)
    have HIDS : Hid (∀ t ∈ H, Uok t.c.id) := Lib.hid fun t ht => (HOK.out.ok t.c (by rw [← HM.out]; exact List.mem_map_of_mem ht)).id
    have HFEW : Hid (∀ t ∈ H, t.n ≤ 100) := Lib.hid fun t ht => by
     have h1 := HOK.out.few t.c (by rw [← HM.out]; exact List.mem_map_of_mem ht)
     have h2 := (HJ.out.own t ht).len
     omega
    have hb := begin_any w1 B mb H Q M at_ r (HJ.out.later HB1.out) HM.out HIDS.out HFEW.out (by have h1 := HOK.out.len; rw [← HM.out, List.length_map] at h1; omega) (HW.out _ HB1.out) (HP.out.later HB1.out) HR.out
    have hap := appC_2 (at_ := at_) M (r.x [] [] []) HG.out hk
    rw [(jget_c HM.out (r.x [] [] []).tx).2, jget_s HM.out (r.x [] [] []).sg] at hap
    by_cases hc : (getT Tv.id H r.tx).isSome = true ∨ (getT Tv.sg H r.sg).isSome = true
    · have hap2 := hap.trans (if_pos hc)
      simp only [if_pos hc] at hb
      have HAP := Lib.hid hap2
      have HBG := Lib.hid hb
      clear hb hap hap2 hc
      rw [hk] at hy0
      clear hk
      go_wp2_with ((with_reducible refine wpList_load_rc HY2.out ?_ ?_); rfl)
      refine HBG.out.mono ?_
      rintro e3 w3 ⟨rfl, hact⟩
      have HACT := Lib.hid (JActed.ahead HB1.out hact.act)
      clear hact HBG
      go_wp2_with fail
      go_ret
      exact ⟨by rw [HAP.out]; rfl, by rw [HAP.out]; exact HACT.out⟩
    · have hap2 := hap.trans (if_neg hc)
      simp only [if_neg hc] at hb
      have HAP := Lib.hid hap2
      have HBG := Lib.hid hb
      clear hb hap hap2 hc
      rw [hk] at hy0
      clear hk
      go_wp2_with ((with_reducible refine wpList_load_rc HY2.out ?_ ?_); rfl)
      refine HBG.out.mono ?_
      rintro e3 w3 ⟨rfl, hact⟩
      have HACT := Lib.hid (JActed.ahead HB1.out hact.act)
      clear hact HBG
      go_wp2_with fail
      go_ret
      exact ⟨by rw [HAP.out]; rfl, by rw [HAP.out]; exact HACT.out⟩
  · obtain ⟨rfl, rfl, rfl⟩ := good_no HG.out (by omega)
    have HCG := Lib.hid (change_any w1 B mb H Q M at_ r (HJ.out.later HB1.out) HM.out HOK.out (HW.out _ HB1.out) (HP.out.later HB1.out) HR.out HG.out (by omega))
    rw [hk] at hy0
    clear hk
    go_wp2_with ((with_reducible refine wpList_load_rc HY2.out ?_ ?_); rfl)
    refine HCG.out.mono ?_
    rintro e3 w3 ⟨rfl, hact⟩
    have HACT := Lib.hid (JActed.ahead HB1.out hact.act)
    clear hact HCG
    go_wp2_with fail
    go_ret
    exact ⟨rfl, HACT.out⟩
  · obtain ⟨rfl, rfl, rfl⟩ := good_no HG.out (by omega)
    have HCG := Lib.hid (change_any w1 B mb H Q M at_ r (HJ.out.later HB1.out) HM.out HOK.out (HW.out _ HB1.out) (HP.out.later HB1.out) HR.out HG.out (by omega))
    rw [hk] at hy0
    clear hk
    go_wp2_with ((with_reducible refine wpList_load_rc HY2.out ?_ ?_); rfl)
    refine HCG.out.mono ?_
    rintro e3 w3 ⟨rfl, hact⟩
    have HACT := Lib.hid (JActed.ahead HB1.out hact.act)
    clear hact HCG
    go_wp2_with fail
    go_ret
    exact ⟨rfl, HACT.out⟩
  · obtain ⟨rfl, rfl, rfl⟩ := good_no HG.out (by omega)
    have HCG := Lib.hid (change_any w1 B mb H Q M at_ r (HJ.out.later HB1.out) HM.out HOK.out (HW.out _ HB1.out) (HP.out.later HB1.out) HR.out HG.out (by omega))
    rw [hk] at hy0
    clear hk
    go_wp2_with ((with_reducible refine wpList_load_rc HY2.out ?_ ?_); rfl)
    refine HCG.out.mono ?_
    rintro e3 w3 ⟨rfl, hact⟩
    have HACT := Lib.hid (JActed.ahead HB1.out hact.act)
    clear hact HCG
    go_wp2_with fail
    go_ret
    exact ⟨rfl, HACT.out⟩
  · obtain ⟨rfl, rfl, rfl⟩ := good_no HG.out (by omega)
    have HCG := Lib.hid (change_any w1 B mb H Q M at_ r (HJ.out.later HB1.out) HM.out HOK.out (HW.out _ HB1.out) (HP.out.later HB1.out) HR.out HG.out (by omega))
    rw [hk] at hy0
    clear hk
    go_wp2_with ((with_reducible refine wpList_load_rc HY2.out ?_ ?_); rfl)
    refine HCG.out.mono ?_
    rintro e3 w3 ⟨rfl, hact⟩
    have HACT := Lib.hid (JActed.ahead HB1.out hact.act)
    clear hact HCG
    go_wp2_with fail
    go_ret
    exact ⟨rfl, HACT.out⟩
  · obtain ⟨rfl, rfl, rfl⟩ := good_no HG.out (by omega)
    have HCG := Lib.hid (change_any w1 B mb H Q M at_ r (HJ.out.later HB1.out) HM.out HOK.out (HW.out _ HB1.out) (HP.out.later HB1.out) HR.out HG.out (by omega))
    rw [hk] at hy0
    clear hk
    go_wp2_with ((with_reducible refine wpList_load_rc HY2.out ?_ ?_); rfl)
    refine HCG.out.mono ?_
    rintro e3 w3 ⟨rfl, hact⟩
    have HACT := Lib.hid (JActed.ahead HB1.out hact.act)
    clear hact HCG
    go_wp2_with fail
    go_ret
    exact ⟨rfl, HACT.out⟩
  · have HAP := Lib.hid (app_out M at_ (r.x La Ta Ma) (.inr (by rw [show (r.x La Ta Ma).k = r.k from rfl, hk]; omega)))
    rw [hk] at hy0
    clear hk
    go_wp2_with fail
    go_ret
    exact ⟨by rw [HAP.out]; rfl, by rw [HAP.out]; exact (ActX.stay HJ.out HM.out HB1.out).act⟩
  · have HAP := Lib.hid (app_out M at_ (r.x La Ta Ma) (.inr (by rw [show (r.x La Ta Ma).k = r.k from rfl, hk]; omega)))
    rw [hk] at hy0
    clear hk
    go_wp2_with fail
    go_ret
    exact ⟨by rw [HAP.out]; rfl, by rw [HAP.out]; exact (ActX.stay HJ.out HM.out HB1.out).act⟩
end Go.Proofs.YtccgjdmbongbaaaGreatDoor
