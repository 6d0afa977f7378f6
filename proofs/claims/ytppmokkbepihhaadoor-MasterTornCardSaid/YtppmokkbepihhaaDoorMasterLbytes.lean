/- MasterBytes: Any master is encoded as the document says, and any bytes are decoded so. (Written by tools/src/mkmasterlbytes.py.) -/
import Derived.Test.YtppmokkbepihhaaDoorMasterWorks
import Derived.Deep.RegionWith
namespace Go.Proofs.YtppmokkbepihhaaDoor
open Go.RowKit Go.ChangeShapes Go.WideShapes
set_option linter.unusedVariables false
set_option linter.unusedSimpArgs false
set_option maxRecDepth 10000

theorem mmin_of (len B : Nat) : ∃ k : Nat, min (len : Int) (B : Int) = (k : Int) ∧ k ≤ len ∧ k ≤ B := ⟨min len B, by omega, Nat.min_le_left .., Nat.min_le_right ..⟩
theorem hSK_len {w : World} {p : Option Addr} {n c : Nat} {L : List Nat} (h : Sl w p n c L) (k : Nat) (hk : k ≤ n) : (L.take k).length = k := by rw [List.length_take, h.len]; omega
set_option maxHeartbeats 2000000 in
theorem law_mbytes (m : Mv) (hm : m.ok) (p : Option Addr) (n c : Nat) (L : List Nat) (w : World) (hT : Tab w) (hS : Sl w p n c L) (hc : c ≤ maxLen) :
    Calls Tryd.prog 3 #[.agg #[.int .u64 ((m.g : Nat) : Int), .int .u8 ((m.a : Nat) : Int), .int .i64 (sgn m.r), .int .i64 (sgn m.t), .int .i64 (sgn m.s)], .slice p n c] w fun e w' => e = .returned (.bool true) ∧ Below w.heap.size w w' := by
  obtain ⟨k, hk, hkn, hk100⟩ : ∃ k : Nat, min (n : Int) 100 = (k : Int) ∧ k ≤ n ∧ k ≤ 100 := mmin_of n 100
  have hcap := hS.cap
  have hc63 : c ≤ 9223372036854775807 := hc
  have henc := fun w' hT' => menc_any m hm w' hT'
  have hrby := fun w' => mrbytes_any m hm w'
  have hgm := goodI_m m
  obtain ⟨g, a, r, t, s⟩ := m
  replace henc : ∀ w', Tab w' → Calls Tryd.prog 7 #[.agg #[.int .u64 (g : Int), .int .u8 (a : Int), .int .i64 (sgn r), .int .i64 (sgn t), .int .i64 (sgn s)]] w' (GivesE w' (encL ⟨g, a, r, t, s⟩) (encE ⟨g, a, r, t, s⟩)) := henc
  replace hrby : ∀ w', Calls Tryd.prog 9 #[.agg #[.int .u64 (g : Int), .int .u8 (a : Int), .int .i64 (sgn r), .int .i64 (sgn t), .int .i64 (sgn s)]] w' (Copied w' 45 (bytesM ⟨g, a, r, t, s⟩)) := hrby
  replace hgm : goodI (g : Int) (a : Int) (sgn r) (sgn t) (sgn s) = goodM ⟨g, a, r, t, s⟩ := hgm
  have hb0 : Below w.heap.size w (w.alloc (.cells #[.int .u64 (g : Int), .int .u8 (a : Int), .int .i64 (sgn r), .int .i64 (sgn t), .int .i64 (sgn s)] 24)) := (Below.refl _ _).alloc (Nat.le_refl _) _
  have hx0 := alloc_block w (.cells #[.int .u64 (g : Int), .int .u8 (a : Int), .int .i64 (sgn r), .int .i64 (sgn t), .int .i64 (sgn s)] 24)
  have HB0 := Lib.hid hb0
  have HX0 := Lib.hid hx0
  have HT0 := Lib.hid (hT.later hb0 hT.lt)
  have HSK := Lib.hid ((hS.take k hkn).later hb0)
  have hK := hSK_len hS k hkn
  generalize L.take k = K at *
  have HRB := Lib.hid hrby
  have HENC := Lib.hid henc
  clear hb0 hx0 hT hS henc hrby
  show Calls Tryd.prog 3 #[.agg #[.int .u64 (g : Int), .int .u8 (a : Int), .int .i64 (sgn r), .int .i64 (sgn t), .int .i64 (sgn s)], .slice p n c] w _
  have hlen45 := bytesM_len ⟨g, a, r, t, s⟩
  have HL45 := Lib.hid hlen45
  clear hlen45
  obtain ⟨X, hX⟩ : ∃ X, w.heap.size = X := ⟨_, rfl⟩
  rw [hX] at HX0
  cases hgood : goodM ⟨g, a, r, t, s⟩ with
  | false =>
    rw [hgood] at hgm
    have HDV : Hid (dV K = ⟨(dV K).g, (dV K).a, (dV K).r, (dV K).t, (dV K).s⟩ ∧ dE K = dE K) := Lib.hid ⟨rfl, rfl⟩
    generalize hdv : dV K = v at *
    obtain ⟨g2, a2, r2, t2, s2⟩ := v
    generalize hde : dE K = ev at *
    replace HDV : Hid (dV K = ⟨g2, a2, r2, t2, s2⟩ ∧ dE K = ev) := Lib.hid ⟨hdv, hde⟩
    clear hdv hde
    have HEN := Lib.hid (encL_bad hgood)
    clear hgood
    obtain ⟨x0, x1, x2, x3, x4⟩ := mcells HX0.out
    go_enter Tryd.func3, Tryd.ntmps3
    go_wp2_with fail
    refine (HENC.out _ HT0.out).mono ?_
    rw [HEN.out.1, HEN.out.2]
    rintro e w1 ⟨p1, c1, rfl, hs1, hb1, _, hm1⟩
    have HX1 := Lib.hid (block_later HX0.out hb1)
    have HB1 := Lib.hid (HB0.out.trans (hb1.mono HB0.out.size))
    have HT1 := Lib.hid (HT0.out.later hb1 HT0.out.lt)
    have HSK1 := Lib.hid (HSK.out.later hb1)
    have HS1 := Lib.hid hs1
    have HM1 := Lib.hid hm1
    clear hb1 hs1 hm1 HX0 HB0 HT0 HSK x0 x1 x2 x3 x4 hX
    obtain ⟨x0, x1, x2, x3, x4⟩ := mcells HX1.out
    go_wp2_with fail
    refine (mrgood_any (g : Int) (a : Int) (sgn r) (sgn t) (sgn s) _).mono ?_
    rw [hgm]
    rintro e w2 ⟨rfl, hb2⟩
    have HX2 := Lib.hid (block_later HX1.out hb2)
    have HB2 := Lib.hid (HB1.out.trans (hb2.mono HB1.out.size))
    have HT2 := Lib.hid (HT1.out.later hb2 HT1.out.lt)
    have HSK2 := Lib.hid (HSK1.out.later hb2)
    have HS2 := Lib.hid (HS1.out.later hb2)
    clear hb2 HX1 HB1 HT1 HSK1 HS1 x0 x1 x2 x3 x4
    have HX3 := HX2
    have HB3 := HB2
    have HT3 := HT2
    have HSK3 := HSK2
    clear HX2 HB2 HT2 HSK2 HS2
    go_wp2_with fail
    refine (mdec_any _ _ _ K _ HSK3.out hc (by omega) HT3.out).mono ?_
    rintro e w4 ⟨rfl, hb4⟩
    have hst := HDV.out
    rw [hst.1, hst.2]
    have hbn := ((Below.refl w4.heap.size w4).alloc (Nat.le_refl _) (.cells #[.int .u64 (g2 : Int), .int .u8 (a2 : Int), .int .i64 (sgn r2), .int .i64 (sgn t2), .int .i64 (sgn s2)] 24))
    have HY4 := Lib.hid (alloc_block w4 (.cells #[.int .u64 (g2 : Int), .int .u8 (a2 : Int), .int .i64 (sgn r2), .int .i64 (sgn t2), .int .i64 (sgn s2)] 24))
    have hbb := hb4.trans (hbn.mono hb4.size)
    have HX4 := Lib.hid (block_later HX3.out hbb)
    have HB4 := Lib.hid (HB3.out.trans (hbb.mono HB3.out.size))
    have HT4 := Lib.hid (HT3.out.later hbb HT3.out.lt)
    have HSK4 := Lib.hid (HSK3.out.later hbb)
    clear hb4 hbn hbb HX3 HB3 HT3 HSK3 hst
    go_wp2_with fail
    generalize w4.alloc (.cells #[.int .u64 (g2 : Int), .int .u8 (a2 : Int), .int .i64 (sgn r2), .int .i64 (sgn t2), .int .i64 (sgn s2)] 24) = W4 at *
    generalize w4.heap.size = Y1 at *
    refine (mrdec_any _ _ _ K _ HSK4.out hc (by omega)).mono ?_
    rintro e w5 ⟨rfl, hb5⟩
    have hst := HDV.out
    rw [hst.1, hst.2]
    have hbn := ((Below.refl w5.heap.size w5).alloc (Nat.le_refl _) (.cells #[.int .u64 (g2 : Int), .int .u8 (a2 : Int), .int .i64 (sgn r2), .int .i64 (sgn t2), .int .i64 (sgn s2)] 24))
    have HY5 := Lib.hid (alloc_block w5 (.cells #[.int .u64 (g2 : Int), .int .u8 (a2 : Int), .int .i64 (sgn r2), .int .i64 (sgn t2), .int .i64 (sgn s2)] 24))
    have hbb := hb5.trans (hbn.mono hb5.size)
    have HX5 := Lib.hid (block_later HX4.out hbb)
    have HY45 := Lib.hid (block_later HY4.out hbb)
    have HB5 := Lib.hid (HB4.out.trans (hbb.mono HB4.out.size))
    have HT5 := Lib.hid (HT4.out.later hbb HT4.out.lt)
    clear hb5 hbn hbb HX4 HB4 HT4 HSK4 HY4 hst
    go_upto_region 10 with (fail)
    generalize w5.alloc (.cells #[.int .u64 (g2 : Int), .int .u8 (a2 : Int), .int .i64 (sgn r2), .int .i64 (sgn t2), .int .i64 (sgn s2)] 24) = W5 at *
    generalize w5.heap.size = Y2 at *
    obtain ⟨y0, y1, y2, y3, y4⟩ := mcells HY45.out
    obtain ⟨z0, z1, z2, z3, z4⟩ := mcells HY5.out
    obtain ⟨x0, x1, x2, x3, x4⟩ := mcells HX5.out
    replace y0 := fun q : After W5 => cell_after q y0
    replace y1 := fun q : After W5 => cell_after q y1
    replace y2 := fun q : After W5 => cell_after q y2
    replace y3 := fun q : After W5 => cell_after q y3
    replace y4 := fun q : After W5 => cell_after q y4
    replace z0 := fun q : After W5 => cell_after q z0
    replace z1 := fun q : After W5 => cell_after q z1
    replace z2 := fun q : After W5 => cell_after q z2
    replace z3 := fun q : After W5 => cell_after q z3
    replace z4 := fun q : After W5 => cell_after q z4
    replace x0 := fun q : After W5 => cell_after q x0
    replace x1 := fun q : After W5 => cell_after q x1
    replace x2 := fun q : After W5 => cell_after q x2
    replace x3 := fun q : After W5 => cell_after q x3
    replace x4 := fun q : After W5 => cell_after q x4
    have hg1 := fun q : After W5 => mgood_any (g : Int) (a : Int) (sgn r) (sgn t) (sgn s) q.w
    have hg2 := fun q : After W5 => mrgood_any (g : Int) (a : Int) (sgn r) (sgn t) (sgn s) q.w
    have hwk := fun q : After W5 => works16 q.w (HT5.out.later q.h HT5.out.lt)
    simp only [hgm] at hg1 hg2
    refine wp_region_after (by kernel_rfl) (by kernel_rfl) ?_
    repeat (go_big_quiet_step (first | (go_at_call 12; with_reducible exact calls_after _ (hg1 _)) | (go_at_call 8; with_reducible exact calls_after _ (hg2 _)) | (go_at_call 13; with_reducible exact calls_after _ (hwk _))))
    refine wpQuiet_nil ?_
    intro w9 hw'
    obtain ⟨⟨wq, h6⟩, hw''⟩ := hw'
    subst hw''
    have HF := Lib.hid (HB5.out.trans (h6.mono HB5.out.size))
    clear h6 hg1 hg2 hwk y0 y1 y2 y3 y4 z0 z1 z2 z3 z4 x0 x1 x2 x3 x4
    go_wp2_with fail
    go_ret
    exact ⟨rfl, HF.out⟩
  | true =>
    rw [hgood] at hgm
    have HDV : Hid (dV K = ⟨(dV K).g, (dV K).a, (dV K).r, (dV K).t, (dV K).s⟩ ∧ dE K = dE K) := Lib.hid ⟨rfl, rfl⟩
    generalize hdv : dV K = v at *
    obtain ⟨g2, a2, r2, t2, s2⟩ := v
    generalize hde : dE K = ev at *
    replace HDV : Hid (dV K = ⟨g2, a2, r2, t2, s2⟩ ∧ dE K = ev) := Lib.hid ⟨hdv, hde⟩
    clear hdv hde
    have HEN := Lib.hid (encL_good hgood)
    clear hgood
    obtain ⟨x0, x1, x2, x3, x4⟩ := mcells HX0.out
    go_enter Tryd.func3, Tryd.ntmps3
    go_wp2_with fail
    refine (HENC.out _ HT0.out).mono ?_
    rw [HEN.out.1, HEN.out.2]
    rintro e w1 ⟨p1, c1, rfl, hs1, hb1, _, hm1⟩
    have HX1 := Lib.hid (block_later HX0.out hb1)
    have HB1 := Lib.hid (HB0.out.trans (hb1.mono HB0.out.size))
    have HT1 := Lib.hid (HT0.out.later hb1 HT0.out.lt)
    have HSK1 := Lib.hid (HSK.out.later hb1)
    have HS1 := Lib.hid hs1
    have HM1 := Lib.hid hm1
    rw [HL45.out] at HS1 ⊢
    clear hb1 hs1 hm1 HX0 HB0 HT0 HSK x0 x1 x2 x3 x4 hX
    obtain ⟨x0, x1, x2, x3, x4⟩ := mcells HX1.out
    go_wp2_with fail
    refine (mrgood_any (g : Int) (a : Int) (sgn r) (sgn t) (sgn s) _).mono ?_
    rw [hgm]
    rintro e w2 ⟨rfl, hb2⟩
    have HX2 := Lib.hid (block_later HX1.out hb2)
    have HB2 := Lib.hid (HB1.out.trans (hb2.mono HB1.out.size))
    have HT2 := Lib.hid (HT1.out.later hb2 HT1.out.lt)
    have HSK2 := Lib.hid (HSK1.out.later hb2)
    have HS2 := Lib.hid (HS1.out.later hb2)
    clear hb2 HX1 HB1 HT1 HSK1 HS1 x0 x1 x2 x3 x4
    go_upto_region 6 with (fail)
    have hcv := fun (w' : World) (hb : Below w2.heap.size w2 w') => conv_sl (HS2.out.later hb)
    have hbd : Below w2.heap.size w2 w2.drew := (Below.refl _ _).drew
    have hc0 := hcv w2.drew hbd
    obtain ⟨x0, x1, x2, x3, x4⟩ := mcells (show w2.drew.heap[X]? = _ from HX2.out)
    have HCV := Lib.hid hcv
    clear hcv hbd
    generalize hst : strOf (bytesM ⟨g, a, r, t, s⟩) = st at *
    have HST := Lib.hid hst
    clear hst
    go_region_with (first | (go_simp; go_at_call 9; refine (HRB.out _).mono ?_; rintro e w7 ⟨v7, rfl, hr7, hb7, hk7⟩; obtain ⟨p7, c7, rfl, _, hs7, _⟩ := hr7.sl; have hcn := conv_sl hs7; rw [HST.out] at hcn; have hco := HCV.out w7 ((below_undrew (q := 1) hb7)); have HBW := Lib.hid (below_undrew (q := 1) hb7); clear hr7 hb7 hk7 hs7))
    all_goals
      have HX3 := Lib.hid (block_later HX2.out HBW.out)
      have HB3 := Lib.hid (HB2.out.trans (HBW.out.mono HB2.out.size))
      have HT3 := Lib.hid (HT2.out.later HBW.out HT2.out.lt)
      have HSK3 := Lib.hid (HSK2.out.later HBW.out)
      clear HX2 HB2 HT2 HSK2 HS2 HBW HCV hc0 hcn hco x0 x1 x2 x3 x4
      go_wp2_with fail
      refine (mdec_any _ _ _ K _ HSK3.out hc (by omega) HT3.out).mono ?_
      rintro e w4 ⟨rfl, hb4⟩
      have hst := HDV.out
      rw [hst.1, hst.2]
      have hbn := ((Below.refl w4.heap.size w4).alloc (Nat.le_refl _) (.cells #[.int .u64 (g2 : Int), .int .u8 (a2 : Int), .int .i64 (sgn r2), .int .i64 (sgn t2), .int .i64 (sgn s2)] 24))
      have HY4 := Lib.hid (alloc_block w4 (.cells #[.int .u64 (g2 : Int), .int .u8 (a2 : Int), .int .i64 (sgn r2), .int .i64 (sgn t2), .int .i64 (sgn s2)] 24))
      have hbb := hb4.trans (hbn.mono hb4.size)
      have HX4 := Lib.hid (block_later HX3.out hbb)
      have HB4 := Lib.hid (HB3.out.trans (hbb.mono HB3.out.size))
      have HT4 := Lib.hid (HT3.out.later hbb HT3.out.lt)
      have HSK4 := Lib.hid (HSK3.out.later hbb)
      clear hb4 hbn hbb HX3 HB3 HT3 HSK3 hst
      go_wp2_with fail
      generalize w4.alloc (.cells #[.int .u64 (g2 : Int), .int .u8 (a2 : Int), .int .i64 (sgn r2), .int .i64 (sgn t2), .int .i64 (sgn s2)] 24) = W4 at *
      generalize w4.heap.size = Y1 at *
      refine (mrdec_any _ _ _ K _ HSK4.out hc (by omega)).mono ?_
      rintro e w5 ⟨rfl, hb5⟩
      have hst := HDV.out
      rw [hst.1, hst.2]
      have hbn := ((Below.refl w5.heap.size w5).alloc (Nat.le_refl _) (.cells #[.int .u64 (g2 : Int), .int .u8 (a2 : Int), .int .i64 (sgn r2), .int .i64 (sgn t2), .int .i64 (sgn s2)] 24))
      have HY5 := Lib.hid (alloc_block w5 (.cells #[.int .u64 (g2 : Int), .int .u8 (a2 : Int), .int .i64 (sgn r2), .int .i64 (sgn t2), .int .i64 (sgn s2)] 24))
      have hbb := hb5.trans (hbn.mono hb5.size)
      have HX5 := Lib.hid (block_later HX4.out hbb)
      have HY45 := Lib.hid (block_later HY4.out hbb)
      have HB5 := Lib.hid (HB4.out.trans (hbb.mono HB4.out.size))
      have HT5 := Lib.hid (HT4.out.later hbb HT4.out.lt)
      clear hb5 hbn hbb HX4 HB4 HT4 HSK4 HY4 hst
      go_upto_region 10 with (fail)
      generalize w5.alloc (.cells #[.int .u64 (g2 : Int), .int .u8 (a2 : Int), .int .i64 (sgn r2), .int .i64 (sgn t2), .int .i64 (sgn s2)] 24) = W5 at *
      generalize w5.heap.size = Y2 at *
      obtain ⟨y0, y1, y2, y3, y4⟩ := mcells HY45.out
      obtain ⟨z0, z1, z2, z3, z4⟩ := mcells HY5.out
      obtain ⟨x0, x1, x2, x3, x4⟩ := mcells HX5.out
      replace y0 := fun q : After W5 => cell_after q y0
      replace y1 := fun q : After W5 => cell_after q y1
      replace y2 := fun q : After W5 => cell_after q y2
      replace y3 := fun q : After W5 => cell_after q y3
      replace y4 := fun q : After W5 => cell_after q y4
      replace z0 := fun q : After W5 => cell_after q z0
      replace z1 := fun q : After W5 => cell_after q z1
      replace z2 := fun q : After W5 => cell_after q z2
      replace z3 := fun q : After W5 => cell_after q z3
      replace z4 := fun q : After W5 => cell_after q z4
      replace x0 := fun q : After W5 => cell_after q x0
      replace x1 := fun q : After W5 => cell_after q x1
      replace x2 := fun q : After W5 => cell_after q x2
      replace x3 := fun q : After W5 => cell_after q x3
      replace x4 := fun q : After W5 => cell_after q x4
      have hg1 := fun q : After W5 => mgood_any (g : Int) (a : Int) (sgn r) (sgn t) (sgn s) q.w
      have hg2 := fun q : After W5 => mrgood_any (g : Int) (a : Int) (sgn r) (sgn t) (sgn s) q.w
      have hwk := fun q : After W5 => works16 q.w (HT5.out.later q.h HT5.out.lt)
      simp only [hgm] at hg1 hg2
      refine wp_region_after (by kernel_rfl) (by kernel_rfl) ?_
      repeat (go_big_quiet_step (first | (go_at_call 12; with_reducible exact calls_after _ (hg1 _)) | (go_at_call 8; with_reducible exact calls_after _ (hg2 _)) | (go_at_call 13; with_reducible exact calls_after _ (hwk _))))
      refine wpQuiet_nil ?_
      intro w9 hw'
      obtain ⟨⟨wq, h6⟩, hw''⟩ := hw'
      subst hw''
      have HF := Lib.hid (HB5.out.trans (h6.mono HB5.out.size))
      clear h6 hg1 hg2 hwk y0 y1 y2 y3 y4 z0 z1 z2 z3 z4 x0 x1 x2 x3 x4
      go_wp2_with fail
      go_ret
      exact ⟨rfl, HF.out⟩
end Go.Proofs.YtppmokkbepihhaaDoor
