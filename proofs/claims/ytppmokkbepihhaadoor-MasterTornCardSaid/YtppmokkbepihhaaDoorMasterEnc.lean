/- master.Encode, and the document's bytes of a master. (Written by tools/src/mkmasterenc.py.) -/
import Derived.Test.YtppmokkbepihhaaDoorMasterRdec
import Derived.Test.YtppmokkbepihhaaDoorWireOk
namespace Go.Proofs.YtppmokkbepihhaaDoor
open Go.RowKit Go.ChangeShapes Go.WideShapes
set_option linter.unusedVariables false
set_option linter.unusedSimpArgs false
set_option maxRecDepth 10000

theorem done_more (W w : World) (B : Nat) (most : Int) (L : List Nat) (h : WrOk W w B most (0, L)) (hl : L.length ≤ 100000) : Calls Tryd.prog 19 #[.pointer (some ⟨B, 0, none⟩)] w fun e w' => GivesE W L 0 e w' ∧ Below w.heap.size w w' := by
  obtain ⟨v, hw, hB, hv, hb⟩ := h
  refine (done_any B v most (0, L) w hw hl).mono ?_
  rintro e w' ⟨h1, h2⟩
  rw [if_pos rfl] at h2
  obtain ⟨v, rfl, hr, ho⟩ := h2
  obtain ⟨q, d, rfl, hm, hs, hq⟩ := hr.sl
  exact ⟨⟨_, _, rfl, hs, hb.trans (h1.mono hb.size), fun a ha => Nat.le_trans hb.size (ho _ (hq a ha)), hm⟩, h1⟩
theorem GivesE.of {W w w' : World} {L : List Nat} {x : Int} {e : Ending} (hb : Below W.heap.size W w) (h : GivesE w L x e w') : GivesE W L x e w' := by
  obtain ⟨p, c, rfl, h1, h2, h3, h4⟩ := h
  exact ⟨p, c, rfl, h1, hb.trans (h2.mono hb.size), fun a ha => Nat.le_trans hb.size (h3 a ha), h4⟩
theorem encL_bad {m : Mv} (h : goodM m = false) : encL m = [] ∧ encE m = 1 := ⟨if_neg (by rw [h]; simp), if_neg (by rw [h]; simp)⟩
theorem encL_good {m : Mv} (h : goodM m = true) : encL m = bytesM m ∧ encE m = 0 := ⟨if_pos h, if_pos h⟩
set_option maxHeartbeats 2000000 in
theorem menc_any (m : Mv) (hm : m.ok) (w : World) (hT : Tab w) :
    Calls Tryd.prog 7 #[.agg #[.int .u64 ((m.g : Nat) : Int), .int .u8 ((m.a : Nat) : Int), .int .i64 (sgn m.r), .int .i64 (sgn m.t), .int .i64 (sgn m.s)]] w (GivesE w (encL m) (encE m)) := by
  have hgm := goodI_m m
  obtain ⟨hg, ha, hr, ht, hs⟩ := hm
  obtain ⟨g, a, r, t, s⟩ := m
  replace hg : g < 18446744073709551616 := hg
  replace ha : a < 256 := ha
  replace hr : r < 18446744073709551616 := hr
  replace ht : t < 18446744073709551616 := ht
  replace hs : s < 18446744073709551616 := hs
  have HT := Lib.hid hT
  show Calls Tryd.prog 7 #[.agg #[.int .u64 (g : Int), .int .u8 (a : Int), .int .i64 (sgn r), .int .i64 (sgn t), .int .i64 (sgn s)]] w (GivesE w (encL ⟨g, a, r, t, s⟩) (encE ⟨g, a, r, t, s⟩))
  replace hgm : goodI (g : Int) (a : Int) (sgn r) (sgn t) (sgn s) = goodM ⟨g, a, r, t, s⟩ := hgm
  have hb0 : Below w.heap.size w (w.alloc (.cells #[.int .u64 (g : Int), .int .u8 (a : Int), .int .i64 (sgn r), .int .i64 (sgn t), .int .i64 (sgn s)] 24)) := (Below.refl _ _).alloc (Nat.le_refl _) _
  have hx0 := alloc_block w (.cells #[.int .u64 (g : Int), .int .u8 (a : Int), .int .i64 (sgn r), .int .i64 (sgn t), .int .i64 (sgn s)] 24)
  have HB0 := Lib.hid hb0
  have HX0 := Lib.hid hx0
  cases hgood : goodM ⟨g, a, r, t, s⟩ with
  | false =>
    rw [hgood] at hgm
    rw [(encL_bad hgood).1, (encL_bad hgood).2]
    obtain ⟨y0, y1, y2, y3, y4⟩ := mcells hx0
    clear hgood hT hb0 hx0
    go_enter Tryd.func7, Tryd.ntmps7
    go_wp2_with fail
    refine (mgood_any (g : Int) (a : Int) (sgn r) (sgn t) (sgn s) _).mono ?_
    rw [hgm]
    rintro e w1 ⟨rfl, hb1⟩
    have HG := Lib.hid (GivesE.of (HB0.out.trans (hb1.mono HB0.out.size)) (fgives_nil0 w1 1))
    clear hb1 y0 y1 y2 y3 y4
    go_wp2_with fail
    go_ret2
    exact HG.out
  | true =>
    rw [hgood] at hgm
    rw [(encL_good hgood).1, (encL_good hgood).2]
    have hx4 : sumL (headM ⟨g, a, r, t, s⟩) < 4294967296 := sumL_lt _
    have hfr : Hid (le g 8 ++ le a 1 ++ le r 8 ++ le t 8 ++ le s 8 ++ le (sumL (headM ⟨g, a, r, t, s⟩)) 4 ++ le g 8 = bytesM ⟨g, a, r, t, s⟩) := Lib.hid (by simp only [bytesM, headM, List.append_assoc])
    have hfh : Hid (le g 8 ++ le a 1 ++ le r 8 ++ le t 8 ++ le s 8 = headM ⟨g, a, r, t, s⟩) := Lib.hid (by simp only [headM, List.append_assoc])
    have hl33 := headM_len ⟨g, a, r, t, s⟩
    have hl45 := bytesM_len ⟨g, a, r, t, s⟩
    have hlim : lim 45 = 45 := rfl
    have HL33 := Lib.hid hl33
    have HL45 := Lib.hid hl45
    have N1 : Hid (numW 45 (0, []) g 8 = (0, le g 8)) := Lib.hid (num_step2 45 [] g 8 (by omega) (by omega) (by omega) (by simp))
    have N2 : Hid (numW 45 (0, le g 8) a 1 = (0, le g 8 ++ le a 1)) := Lib.hid (num_step2 45 (le g 8) a 1 (by omega) (by omega) (by omega) (by simp only [List.length_append, le_len]; omega))
    have N3 : Hid (numW 45 (0, le g 8 ++ le a 1) r 8 = (0, le g 8 ++ le a 1 ++ le r 8)) := Lib.hid (num_step2 45 (le g 8 ++ le a 1) r 8 (by omega) (by omega) (by omega) (by simp only [List.length_append, le_len]; omega))
    have N4 : Hid (numW 45 (0, le g 8 ++ le a 1 ++ le r 8) t 8 = (0, le g 8 ++ le a 1 ++ le r 8 ++ le t 8)) := Lib.hid (num_step2 45 (le g 8 ++ le a 1 ++ le r 8) t 8 (by omega) (by omega) (by omega) (by simp only [List.length_append, le_len]; omega))
    have N5 : Hid (numW 45 (0, le g 8 ++ le a 1 ++ le r 8 ++ le t 8) s 8 = (0, le g 8 ++ le a 1 ++ le r 8 ++ le t 8 ++ le s 8)) := Lib.hid (num_step2 45 (le g 8 ++ le a 1 ++ le r 8 ++ le t 8) s 8 (by omega) (by omega) (by omega) (by simp only [List.length_append, le_len]; omega))
    have N6 : Hid (numW 45 (0, le g 8 ++ le a 1 ++ le r 8 ++ le t 8 ++ le s 8) (sumL (headM ⟨g, a, r, t, s⟩)) 4 = (0, le g 8 ++ le a 1 ++ le r 8 ++ le t 8 ++ le s 8 ++ le (sumL (headM ⟨g, a, r, t, s⟩)) 4)) := Lib.hid (num_step2 45 (le g 8 ++ le a 1 ++ le r 8 ++ le t 8 ++ le s 8) (sumL (headM ⟨g, a, r, t, s⟩)) 4 (by omega) (by omega) (by omega) (by simp only [List.length_append, le_len]; omega))
    have N7 : Hid (numW 45 (0, le g 8 ++ le a 1 ++ le r 8 ++ le t 8 ++ le s 8 ++ le (sumL (headM ⟨g, a, r, t, s⟩)) 4) g 8 = (0, bytesM ⟨g, a, r, t, s⟩)) := Lib.hid (by rw [← hfr.out]; exact num_step2 45 (le g 8 ++ le a 1 ++ le r 8 ++ le t 8 ++ le s 8 ++ le (sumL (headM ⟨g, a, r, t, s⟩)) 4) g 8 (by omega) (by omega) (by omega) (by simp only [List.length_append, le_len]; omega))
    obtain ⟨y0, y1, y2, y3, y4⟩ := mcells hx0
    clear hgood hT hb0 hx0 hl33 hl45
    obtain ⟨X, hX⟩ : ∃ X, w.heap.size = X := ⟨_, rfl⟩
    have HXX := Lib.hid hX
    rw [hX] at HX0 y0 y1 y2 y3 y4
    go_enter Tryd.func7, Tryd.ntmps7
    go_wp2_with fail
    refine (mgood_any (g : Int) (a : Int) (sgn r) (sgn t) (sgn s) _).mono ?_
    rw [hgm]
    rintro e w1 ⟨rfl, hb1⟩
    have HX1 := Lib.hid (block_later HX0.out hb1)
    have HB1 := Lib.hid (HB0.out.trans (hb1.mono HB0.out.size))
    have HT1 := Lib.hid (HT.out.later HB1.out HT.out.lt)
    clear hb1 y0 y1 y2 y3 y4 HX0 HB0 HT hX
    go_wp2_with fail
    refine (new_ok w1 w1 _ (Below.refl _ _)).mono ?_
    rintro e w2 ⟨B, rfl, hk⟩
    rw [hlim] at hk
    have HK2 := Lib.hid hk
    clear hk hlim
    have hx' := block_later HX1.out HK2.out.below
    obtain ⟨y0, y1, y2, y3, y4⟩ := mcells hx'
    clear hx'
    go_wp2_with fail
    refine (HK2.out.step (T := (0, le g 8)) fun v hv => ?_).mono ?_
    · have := num_wr B v 45 (0, []) (g) 8 _ hv (by omega) (by omega) (by simp only [List.length_append, le_len, List.length_nil]; omega)
      first | (rw [N1.out] at this; exact this) | (rw [show ((8 : Nat) : Int) = (8 : Int) by rfl, N1.out] at this; exact this)
    rintro e w3 ⟨rfl, hk⟩
    have HK3 := Lib.hid hk
    clear hk HK2 y0 y1 y2 y3 y4
    have hx' := block_later HX1.out HK3.out.below
    obtain ⟨y0, y1, y2, y3, y4⟩ := mcells hx'
    clear hx'
    go_wp2_with fail
    refine (HK3.out.step (T := (0, le g 8 ++ le a 1)) fun v hv => ?_).mono ?_
    · have := num_wr B v 45 (0, le g 8) (a) 1 _ hv (by omega) (by omega) (by simp only [List.length_append, le_len, List.length_nil]; omega)
      first | (rw [N2.out] at this; exact this) | (rw [show ((1 : Nat) : Int) = (1 : Int) by rfl, N2.out] at this; exact this)
    rintro e w4 ⟨rfl, hk⟩
    have HK4 := Lib.hid hk
    clear hk HK3 y0 y1 y2 y3 y4
    have hx' := block_later HX1.out HK4.out.below
    obtain ⟨y0, y1, y2, y3, y4⟩ := mcells hx'
    clear hx'
    go_wp2_with fail
    refine (HK4.out.step (T := (0, le g 8 ++ le a 1 ++ le r 8)) fun v hv => ?_).mono ?_
    · have := int_wr B v 45 (0, le g 8 ++ le a 1) (r) _ hv hr (by omega) (by omega) (by simp only [List.length_append, le_len, List.length_nil]; omega)
      first | (rw [N3.out] at this; exact this) | (rw [show ((8 : Nat) : Int) = (8 : Int) by rfl, N3.out] at this; exact this)
    rintro e w5 ⟨rfl, hk⟩
    have HK5 := Lib.hid hk
    clear hk HK4 y0 y1 y2 y3 y4
    have hx' := block_later HX1.out HK5.out.below
    obtain ⟨y0, y1, y2, y3, y4⟩ := mcells hx'
    clear hx'
    go_wp2_with fail
    refine (HK5.out.step (T := (0, le g 8 ++ le a 1 ++ le r 8 ++ le t 8)) fun v hv => ?_).mono ?_
    · have := int_wr B v 45 (0, le g 8 ++ le a 1 ++ le r 8) (t) _ hv ht (by omega) (by omega) (by simp only [List.length_append, le_len, List.length_nil]; omega)
      first | (rw [N4.out] at this; exact this) | (rw [show ((8 : Nat) : Int) = (8 : Int) by rfl, N4.out] at this; exact this)
    rintro e w6 ⟨rfl, hk⟩
    have HK6 := Lib.hid hk
    clear hk HK5 y0 y1 y2 y3 y4
    have hx' := block_later HX1.out HK6.out.below
    obtain ⟨y0, y1, y2, y3, y4⟩ := mcells hx'
    clear hx'
    go_wp2_with fail
    refine (HK6.out.step (T := (0, le g 8 ++ le a 1 ++ le r 8 ++ le t 8 ++ le s 8)) fun v hv => ?_).mono ?_
    · have := int_wr B v 45 (0, le g 8 ++ le a 1 ++ le r 8 ++ le t 8) (s) _ hv hs (by omega) (by omega) (by simp only [List.length_append, le_len, List.length_nil]; omega)
      first | (rw [N5.out] at this; exact this) | (rw [show ((8 : Nat) : Int) = (8 : Int) by rfl, N5.out] at this; exact this)
    rintro e w7 ⟨rfl, hk⟩
    have HK7 := Lib.hid hk
    clear hk HK6 y0 y1 y2 y3 y4
    go_wp2_with fail
    refine (done_more w1 w7 B 45 (le g 8 ++ le a 1 ++ le r 8 ++ le t 8 ++ le s 8) HK7.out (by simp only [List.length_append, le_len]; omega)).mono ?_
    rintro e w8 ⟨⟨p8, c8, rfl, h81, h82, h83, h84⟩, hb8⟩
    rw [hfh.out, HL33.out] at h81 ⊢
    have HK8 := Lib.hid (HK7.out.later (Chg.of_below hb8))
    have HS8 := Lib.hid h81
    have HT8 := Lib.hid (HT1.out.later h82 HT1.out.lt)
    clear h81 h82 h83 h84 hb8 HK7
    go_wp2_with fail
    refine (sum_sl p8 33 c8 (headM ⟨g, a, r, t, s⟩) _ HS8.out (by omega) HT8.out).mono ?_
    rintro e w9 ⟨rfl, rfl⟩
    go_wp2_with fail
    refine (HK8.out.step (T := (0, le g 8 ++ le a 1 ++ le r 8 ++ le t 8 ++ le s 8 ++ le (sumL (headM ⟨g, a, r, t, s⟩)) 4)) fun v hv => ?_).mono ?_
    · have := num_wr B v 45 (0, le g 8 ++ le a 1 ++ le r 8 ++ le t 8 ++ le s 8) (sumL (headM ⟨g, a, r, t, s⟩)) 4 _ hv (by omega) (by omega) (by simp only [List.length_append, le_len]; omega)
      rw [N6.out] at this
      exact this
    rintro e w10 ⟨rfl, hk⟩
    have HK10 := Lib.hid hk
    clear hk HK8 HS8 HT8
    have hx' := block_later HX1.out HK10.out.below
    obtain ⟨y0, y1, y2, y3, y4⟩ := mcells hx'
    clear hx'
    go_wp2_with fail
    refine (HK10.out.step (T := (0, bytesM ⟨g, a, r, t, s⟩)) fun v hv => ?_).mono ?_
    · have := num_wr B v 45 (0, le g 8 ++ le a 1 ++ le r 8 ++ le t 8 ++ le s 8 ++ le (sumL (headM ⟨g, a, r, t, s⟩)) 4) g 8 _ hv (by omega) (by omega) (by simp only [List.length_append, le_len]; omega)
      rw [N7.out] at this
      exact this
    rintro e w11 ⟨rfl, hk⟩
    have HK11 := Lib.hid hk
    clear hk HK10 y0 y1 y2 y3 y4
    go_wp2_with fail
    refine (done_max w1 w11 B 45 _ HK11.out (by rw [HL45.out]; omega)).mono ?_
    rintro e w12 hG
    have HG := Lib.hid (GivesE.of HB1.out hG)
    obtain ⟨p12, c12, rfl, _, _, _, _⟩ := hG
    go_wp2_with fail
    go_ret2
    exact HG.out
set_option maxHeartbeats 2000000 in
theorem mrbytes_any (m : Mv) (hm : m.ok) (w : World) :
    Calls Tryd.prog 9 #[.agg #[.int .u64 ((m.g : Nat) : Int), .int .u8 ((m.a : Nat) : Int), .int .i64 (sgn m.r), .int .i64 (sgn m.t), .int .i64 (sgn m.s)]] w (Copied w 45 (bytesM m)) := by
  obtain ⟨hg, ha, hr, ht, hs⟩ := hm
  obtain ⟨g, a, r, t, s⟩ := m
  replace hg : g < 18446744073709551616 := hg
  replace ha : a < 256 := ha
  replace hr : r < 18446744073709551616 := hr
  replace ht : t < 18446744073709551616 := ht
  replace hs : s < 18446744073709551616 := hs
  show Calls Tryd.prog 9 #[.agg #[.int .u64 (g : Int), .int .u8 (a : Int), .int .i64 (sgn r), .int .i64 (sgn t), .int .i64 (sgn s)]] w (Copied w 45 (bytesM ⟨g, a, r, t, s⟩))
  have hb0 : Below w.heap.size w (w.alloc (.cells #[.int .u64 (g : Int), .int .u8 (a : Int), .int .i64 (sgn r), .int .i64 (sgn t), .int .i64 (sgn s)] 24)) := (Below.refl _ _).alloc (Nat.le_refl _) _
  have hx0 := alloc_block w (.cells #[.int .u64 (g : Int), .int .u8 (a : Int), .int .i64 (sgn r), .int .i64 (sgn t), .int .i64 (sgn s)] 24)
  have HB0 := Lib.hid hb0
  have HX0 := Lib.hid hx0
  have hx4 : sumL (headM ⟨g, a, r, t, s⟩) < 4294967296 := sumL_lt _
  have hfr : Hid (le g 8 ++ (le a 1 ++ (le r 8 ++ (le t 8 ++ (le s 8 ++ (le (sumL (headM ⟨g, a, r, t, s⟩)) 4 ++ le g 8))))) = bytesM ⟨g, a, r, t, s⟩) := Lib.hid (by simp only [bytesM, headM, List.append_assoc])
  have hfh : Hid (le g 8 ++ (le a 1 ++ (le r 8 ++ (le t 8 ++ le s 8))) = headM ⟨g, a, r, t, s⟩) := Lib.hid (by simp only [headM, List.append_assoc])
  have h1a : Hid (le a 1 = [a]) := Lib.hid (by simp [le, Nat.mod_eq_of_lt ha])
  obtain ⟨X, hX⟩ : ∃ X, w.heap.size = X := ⟨_, rfl⟩
  have HXX := Lib.hid hX
  rw [hX] at HX0 hx0
  obtain ⟨y0, y1, y2, y3, y4⟩ := mcells hx0
  clear hb0 hx0
  go_enter Tryd.func9, Tryd.ntmps9
  go_wp2_with fail
  clear y0 y1 y2 y3 y4 hX
  refine (rnum_any g 8 _ hg (by omega)).mono ?_
  rintro e w1 ⟨v, rfl, hr1, hb1, hk1⟩
  obtain ⟨p1, c1, rfl, _⟩ := hr1.sl
  have HR1 := Lib.hid hr1
  have HX1 := Lib.hid (block_later HX0.out hb1)
  have HB1 := Lib.hid (HB0.out.trans (hb1.mono HB0.out.size))
  have HK1 := Lib.hid fun k h => Nat.le_trans HB0.out.size (hk1 k h)
  have hxn : ∀ k, (Value.slice p1 8 c1).ownBlock = some k → X ≠ k := fun k h => by have := hk1 k h; have := block_lt HX0.out; omega
  have HN1 := Lib.hid hxn
  clear hr1 hb1 hk1 HX0 HB0 hxn
  obtain ⟨y0, y1, y2, y3, y4⟩ := mcells HX1.out
  have hba : Below w1.heap.size w1 (w1.alloc (.cells #[.int .u8 (a : Int)] 5)) := (Below.refl _ _).alloc (Nat.le_refl _) _
  have HRA : Hid (Row (w1.alloc (.cells #[.int .u8 (a : Int)] 5)) (.slice p1 8 c1) 8 (le g 8)) := Lib.hid (HR1.out.chg ((Chg.refl (fun _ => False) _).alloc _) fun _ _ h => h)
  have HSA : Hid (Sl (w1.alloc (.cells #[.int .u8 (a : Int)] 5)) (some ⟨w1.heap.size, 0, none⟩) 1 1 [a]) := Lib.hid (sl_one a ha w1)
  have HXA := Lib.hid (block_later HX1.out hba)
  have HBA := Lib.hid (HB1.out.trans (hba.mono HB1.out.size))
  have HB1s := Lib.hid HB1.out.size
  have HX1s := Lib.hid (block_lt HX1.out)
  clear hba HR1
  go_wp2_with (at_builtin; refine wpList_append_row rfl _ _ rfl _ _ (le g 8) rfl HRA.out _ _ _ [a] rfl HSA.out (by omega) ?_)
  clear y0 y1 y2 y3 y4
  intro v' w2 hr hc hk
  rw [← h1a.out] at hr
  obtain ⟨p2, c2, rfl, _⟩ := hr.sl
  have HR2 := Lib.hid hr
  have HX2 := Lib.hid ((hc.block X (block_lt HXA.out) fun h => HN1.out X h rfl).trans HXA.out)
  have HB2 := Lib.hid (hc.below HBA.out HBA.out.size fun k h => HK1.out k h)
  have HK2 : Hid (∀ k, (Value.slice p2 9 c2).ownBlock = some k → w.heap.size ≤ k) := Lib.hid fun k h => (hk k h).elim (HK1.out k) fun h' => by have := HB1s.out; omega
  have HN2 : Hid (∀ k, (Value.slice p2 9 c2).ownBlock = some k → X ≠ k) := Lib.hid fun k h => (hk k h).elim (HN1.out k) fun h' => by have := HX1s.out; omega
  clear hr hc hk HXA HBA HRA HSA HX1 HB1 HK1 HN1
  obtain ⟨y0, y1, y2, y3, y4⟩ := mcells HX2.out
  go_wp2_with fail
  refine (rint_any r _ hr).mono ?_
  rintro e w2b ⟨v, rfl, hr, hb, hk⟩
  obtain ⟨p2b, c2b, rfl, _, hsb, _⟩ := hr.sl
  have HSA := Lib.hid hsb
  have HRA := Lib.hid (HR2.out.chg (Chg.of_below (S := fun _ => False) hb) fun _ _ h => h)
  have HXA := Lib.hid (block_later HX2.out hb)
  have HBA := Lib.hid (HB2.out.trans (hb.mono HB2.out.size))
  clear hr hb hk hsb y0 y1 y2 y3 y4
  go_wp2_with (at_builtin; refine wpList_append_row rfl _ _ rfl _ _ (le g 8 ++ le a 1) rfl HRA.out _ _ _ (le r 8) rfl HSA.out (by omega) ?_)
  intro v' w3 hr hc hk
  obtain ⟨p3, c3, rfl, _⟩ := hr.sl
  have HR3 := Lib.hid hr
  have HX3 := Lib.hid ((hc.block X (block_lt HXA.out) fun h => HN2.out X h rfl).trans HXA.out)
  have HB3 := Lib.hid (hc.below HBA.out HBA.out.size fun k h => HK2.out k h)
  have HK3 : Hid (∀ k, (Value.slice p3 17 c3).ownBlock = some k → w.heap.size ≤ k) := Lib.hid fun k h => (hk k h).elim (HK2.out k) fun h' => Nat.le_trans HBA.out.size h'
  have HN3 : Hid (∀ k, (Value.slice p3 17 c3).ownBlock = some k → X ≠ k) := Lib.hid fun k h => (hk k h).elim (HN2.out k) fun h' => by have := block_lt HXA.out; omega
  clear hr hc hk HXA HBA HRA HSA HX2 HB2 HK2 HN2 HR2
  obtain ⟨y0, y1, y2, y3, y4⟩ := mcells HX3.out
  go_wp2_with fail
  refine (rint_any t _ ht).mono ?_
  rintro e w3b ⟨v, rfl, hr, hb, hk⟩
  obtain ⟨p3b, c3b, rfl, _, hsb, _⟩ := hr.sl
  have HSA := Lib.hid hsb
  have HRA := Lib.hid (HR3.out.chg (Chg.of_below (S := fun _ => False) hb) fun _ _ h => h)
  have HXA := Lib.hid (block_later HX3.out hb)
  have HBA := Lib.hid (HB3.out.trans (hb.mono HB3.out.size))
  clear hr hb hk hsb y0 y1 y2 y3 y4
  go_wp2_with (at_builtin; refine wpList_append_row rfl _ _ rfl _ _ (le g 8 ++ (le a 1 ++ le r 8)) rfl HRA.out _ _ _ (le t 8) rfl HSA.out (by omega) ?_)
  intro v' w4 hr hc hk
  obtain ⟨p4, c4, rfl, _⟩ := hr.sl
  have HR4 := Lib.hid hr
  have HX4 := Lib.hid ((hc.block X (block_lt HXA.out) fun h => HN3.out X h rfl).trans HXA.out)
  have HB4 := Lib.hid (hc.below HBA.out HBA.out.size fun k h => HK3.out k h)
  have HK4 : Hid (∀ k, (Value.slice p4 25 c4).ownBlock = some k → w.heap.size ≤ k) := Lib.hid fun k h => (hk k h).elim (HK3.out k) fun h' => Nat.le_trans HBA.out.size h'
  have HN4 : Hid (∀ k, (Value.slice p4 25 c4).ownBlock = some k → X ≠ k) := Lib.hid fun k h => (hk k h).elim (HN3.out k) fun h' => by have := block_lt HXA.out; omega
  clear hr hc hk HXA HBA HRA HSA HX3 HB3 HK3 HN3 HR3
  obtain ⟨y0, y1, y2, y3, y4⟩ := mcells HX4.out
  go_wp2_with fail
  refine (rint_any s _ hs).mono ?_
  rintro e w4b ⟨v, rfl, hr, hb, hk⟩
  obtain ⟨p4b, c4b, rfl, _, hsb, _⟩ := hr.sl
  have HSA := Lib.hid hsb
  have HRA := Lib.hid (HR4.out.chg (Chg.of_below (S := fun _ => False) hb) fun _ _ h => h)
  have HXA := Lib.hid (block_later HX4.out hb)
  have HBA := Lib.hid (HB4.out.trans (hb.mono HB4.out.size))
  clear hr hb hk hsb y0 y1 y2 y3 y4
  go_wp2_with (at_builtin; refine wpList_append_row rfl _ _ rfl _ _ (le g 8 ++ (le a 1 ++ (le r 8 ++ le t 8))) rfl HRA.out _ _ _ (le s 8) rfl HSA.out (by omega) ?_)
  intro v' w5 hr hc hk
  obtain ⟨p5, c5, rfl, _⟩ := hr.sl
  have HR5 := Lib.hid hr
  have HX5 := Lib.hid ((hc.block X (block_lt HXA.out) fun h => HN4.out X h rfl).trans HXA.out)
  have HB5 := Lib.hid (hc.below HBA.out HBA.out.size fun k h => HK4.out k h)
  have HK5 : Hid (∀ k, (Value.slice p5 33 c5).ownBlock = some k → w.heap.size ≤ k) := Lib.hid fun k h => (hk k h).elim (HK4.out k) fun h' => Nat.le_trans HBA.out.size h'
  have HN5 : Hid (∀ k, (Value.slice p5 33 c5).ownBlock = some k → X ≠ k) := Lib.hid fun k h => (hk k h).elim (HN4.out k) fun h' => by have := block_lt HXA.out; omega
  clear hr hc hk HXA HBA HRA HSA HX4 HB4 HK4 HN4 HR4
  obtain ⟨q5, d5, he5, _, hs5, _⟩ := HR5.out.sl
  cases he5
  rw [hfh.out] at hs5
  have HS5 := Lib.hid hs5
  clear hs5
  go_wp2_with fail
  refine (rsum_sl p5 33 c5 (headM ⟨g, a, r, t, s⟩) _ HS5.out (by omega)).mono ?_
  rintro e w6 ⟨rfl, rfl⟩
  clear HS5
  obtain ⟨y0, y1, y2, y3, y4⟩ := mcells HX5.out
  go_wp2_with fail
  refine (rnum_any (sumL (headM ⟨g, a, r, t, s⟩)) 4 _ (by omega) (by omega)).mono ?_
  rintro e w5b ⟨v, rfl, hr, hb, hk⟩
  obtain ⟨p5b, c5b, rfl, _, hsb, _⟩ := hr.sl
  have HSA := Lib.hid hsb
  have HRA := Lib.hid (HR5.out.chg (Chg.of_below (S := fun _ => False) hb) fun _ _ h => h)
  have HXA := Lib.hid (block_later HX5.out hb)
  have HBA := Lib.hid (HB5.out.trans (hb.mono HB5.out.size))
  clear hr hb hk hsb y0 y1 y2 y3 y4
  go_wp2_with (at_builtin; refine wpList_append_row rfl _ _ rfl _ _ (le g 8 ++ (le a 1 ++ (le r 8 ++ (le t 8 ++ le s 8)))) rfl HRA.out _ _ _ (le (sumL (headM ⟨g, a, r, t, s⟩)) 4) rfl HSA.out (by omega) ?_)
  intro v' w6 hr hc hk
  obtain ⟨p6, c6, rfl, _⟩ := hr.sl
  have HR6 := Lib.hid hr
  have HX6 := Lib.hid ((hc.block X (block_lt HXA.out) fun h => HN5.out X h rfl).trans HXA.out)
  have HB6 := Lib.hid (hc.below HBA.out HBA.out.size fun k h => HK5.out k h)
  have HK6 : Hid (∀ k, (Value.slice p6 37 c6).ownBlock = some k → w.heap.size ≤ k) := Lib.hid fun k h => (hk k h).elim (HK5.out k) fun h' => Nat.le_trans HBA.out.size h'
  have HN6 : Hid (∀ k, (Value.slice p6 37 c6).ownBlock = some k → X ≠ k) := Lib.hid fun k h => (hk k h).elim (HN5.out k) fun h' => by have := block_lt HXA.out; omega
  clear hr hc hk HXA HBA HRA HSA HX5 HB5 HK5 HN5 HR5
  obtain ⟨y0, y1, y2, y3, y4⟩ := mcells HX6.out
  go_wp2_with fail
  refine (rnum_any g 8 _ hg (by omega)).mono ?_
  rintro e w6b ⟨v, rfl, hr, hb, hk⟩
  obtain ⟨p6b, c6b, rfl, _, hsb, _⟩ := hr.sl
  have HSA := Lib.hid hsb
  have HRA := Lib.hid (HR6.out.chg (Chg.of_below (S := fun _ => False) hb) fun _ _ h => h)
  have HXA := Lib.hid (block_later HX6.out hb)
  have HBA := Lib.hid (HB6.out.trans (hb.mono HB6.out.size))
  clear hr hb hk hsb y0 y1 y2 y3 y4
  go_wp2_with (at_builtin; refine wpList_append_row rfl _ _ rfl _ _ (le g 8 ++ (le a 1 ++ (le r 8 ++ (le t 8 ++ (le s 8 ++ le (sumL (headM ⟨g, a, r, t, s⟩)) 4))))) rfl HRA.out _ _ _ (le g 8) rfl HSA.out (by omega) ?_)
  intro v' w7 hr hc hk
  obtain ⟨p7, c7, rfl, _⟩ := hr.sl
  have HR7 := Lib.hid hr
  have HX7 := Lib.hid ((hc.block X (block_lt HXA.out) fun h => HN6.out X h rfl).trans HXA.out)
  have HB7 := Lib.hid (hc.below HBA.out HBA.out.size fun k h => HK6.out k h)
  have HK7 : Hid (∀ k, (Value.slice p7 45 c7).ownBlock = some k → w.heap.size ≤ k) := Lib.hid fun k h => (hk k h).elim (HK6.out k) fun h' => Nat.le_trans HBA.out.size h'
  have HN7 : Hid (∀ k, (Value.slice p7 45 c7).ownBlock = some k → X ≠ k) := Lib.hid fun k h => (hk k h).elim (HN6.out k) fun h' => by have := block_lt HXA.out; omega
  clear hr hc hk HXA HBA HRA HSA HX6 HB6 HK6 HN6 HR6
  have hr := HR7.out
  rw [hfr.out] at hr
  have HF : Hid (Copied w 45 (bytesM ⟨g, a, r, t, s⟩) (.returned (.slice p7 (45) c7)) w7) := Lib.hid ⟨_, rfl, hr, HB7.out, HK7.out⟩
  clear hr
  go_wp2_with fail
  go_ret
  exact HF.out
end Go.Proofs.YtppmokkbepihhaaDoor
