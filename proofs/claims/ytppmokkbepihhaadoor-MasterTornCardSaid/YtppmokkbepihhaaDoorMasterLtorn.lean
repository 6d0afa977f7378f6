/- MasterTorn: A master is written whole, or not at all. (Written by tools/src/mkmasterltorn.py.) -/
import Derived.Test.YtppmokkbepihhaaDoorMasterLbytes
import Derived.Test.YtppmokkbepihhaaDoorAppend
import Derived.Test.YtppmokkbepihhaaDoorHand
import Derived.Deep.Cut
namespace Go.Proofs.YtppmokkbepihhaaDoor
open Go.RowKit Go.ChangeShapes Go.WideShapes
set_option linter.unusedVariables false
set_option linter.unusedSimpArgs false
set_option maxRecDepth 10000

theorem mnews {w : World} {p : Option Addr} {n c : Nat} {L : List Nat} (h : Sl w p n c L) : (vL L).length = n * 1 ∧ (p = none → n = 0 ∧ c = 0) ∧ ∀ ad, p = some ad → ∀ j u, (vL L)[j]? = some u → w.cell? (ad.add j) = some u := by
  refine ⟨by rw [vL_len, h.len, Nat.mul_one], fun hp => ?_, ?_⟩
  · have h1 := h.nil hp
    have h2 := h.cap
    omega
  · rintro ad rfl j u hu
    have hj : j < n := by
      rcases Nat.lt_or_ge j n with h' | h'
      · exact h'
      · rw [List.getElem?_eq_none (by rw [vL_len, h.len]; exact h')] at hu; cases hu
    obtain ⟨b, off, hp, hc⟩ := h.cell (by omega)
    cases hp
    rw [Go.WideShapes.add_plain, hc j hj, ← hu, vL_at L j (by rw [h.len]; exact hj)]
set_option maxHeartbeats 2000000 in
theorem mtorn_bada (g a r t s g2 a2 r2 t2 s2 n k : Nat) (hm : Mv.ok ⟨g, a, r, t, s⟩) (ho : Mv.ok ⟨g2, a2, r2, t2, s2⟩) (hn : n < 256) (hnk : n % 46 = k) (w : World) (hT : Tab w) (hgood : goodM ⟨g, a, r, t, s⟩ = false) (hgo : goodM ⟨g2, a2, r2, t2, s2⟩ = true) :
    Calls Tryd.prog 6 #[.agg #[.int .u64 (g : Int), .int .u8 (a : Int), .int .i64 (sgn r), .int .i64 (sgn t), .int .i64 (sgn s)], .agg #[.int .u64 (g2 : Int), .int .u8 (a2 : Int), .int .i64 (sgn r2), .int .i64 (sgn t2), .int .i64 (sgn s2)], .int .u8 (n : Int)] w fun e w' => e = .returned (.bool true) ∧ Below w.heap.size w w' := by
  have henc : ∀ w', Tab w' → Calls Tryd.prog 7 #[.agg #[.int .u64 (g : Int), .int .u8 (a : Int), .int .i64 (sgn r), .int .i64 (sgn t), .int .i64 (sgn s)]] w' (GivesE w' (encL ⟨g, a, r, t, s⟩) (encE ⟨g, a, r, t, s⟩)) := fun w' hT' => menc_any ⟨g, a, r, t, s⟩ hm w' hT'
  have heno : ∀ w', Tab w' → Calls Tryd.prog 7 #[.agg #[.int .u64 (g2 : Int), .int .u8 (a2 : Int), .int .i64 (sgn r2), .int .i64 (sgn t2), .int .i64 (sgn s2)]] w' (GivesE w' (encL ⟨g2, a2, r2, t2, s2⟩) (encE ⟨g2, a2, r2, t2, s2⟩)) := fun w' hT' => menc_any ⟨g2, a2, r2, t2, s2⟩ ho w' hT'
  obtain ⟨hb0, hxo⟩ := mtwo w #[.int .u64 (g : Int), .int .u8 (a : Int), .int .i64 (sgn r), .int .i64 (sgn t), .int .i64 (sgn s)] #[.int .u64 (g2 : Int), .int .u8 (a2 : Int), .int .i64 (sgn r2), .int .i64 (sgn t2), .int .i64 (sgn s2)] 24 24
  have hxm := block_later (alloc_block w (.cells #[.int .u64 (g : Int), .int .u8 (a : Int), .int .i64 (sgn r), .int .i64 (sgn t), .int .i64 (sgn s)] 24)) ((Below.refl _ _).alloc (Nat.le_refl _) (.cells #[.int .u64 (g2 : Int), .int .u8 (a2 : Int), .int .i64 (sgn r2), .int .i64 (sgn t2), .int .i64 (sgn s2)] 24))
  have HB0 := Lib.hid hb0
  have HT0 := Lib.hid (hT.later hb0 hT.lt)
  have HO0 := Lib.hid hxo
  have HM0 := Lib.hid hxm
  obtain ⟨X, hX⟩ : ∃ X, w.heap.size = X := ⟨_, rfl⟩
  rw [hX] at HO0 HM0
  have HENC := Lib.hid henc
  have HENO := Lib.hid heno
  have HMO := Lib.hid (show Mv.ok ⟨g, a, r, t, s⟩ ∧ Mv.ok ⟨g2, a2, r2, t2, s2⟩ from ⟨hm, ho⟩)
  clear hb0 hxo hxm hT henc heno hm ho
  obtain ⟨x0, x1, x2, x3, x4⟩ := mcells HM0.out
  obtain ⟨z0, z1, z2, z3, z4⟩ := mcells HO0.out
  have HEN := Lib.hid (encL_bad hgood)
  have HEO := Lib.hid (encL_good hgo)
  clear hgood hgo
  go_enter Tryd.func6, Tryd.ntmps6
  go_wp2_with fail
  refine (HENC.out _ HT0.out).mono ?_
  rw [HEN.out.1, HEN.out.2]
  rintro e w1 ⟨p1, c1, rfl, hs1, hb1, _, hm1⟩
  have HM1 := Lib.hid (block_later HM0.out hb1)
  have HO1 := Lib.hid (block_later HO0.out hb1)
  have HB1 := Lib.hid (HB0.out.trans (hb1.mono HB0.out.size))
  have HT1 := Lib.hid (HT0.out.later hb1 HT0.out.lt)
  have HS1 := Lib.hid hs1
  have HMX := Lib.hid hm1
  clear hb1 hs1 hm1 HM0 HO0 HB0 HT0 x0 x1 x2 x3 x4 z0 z1 z2 z3 z4 hX
  obtain ⟨x0, x1, x2, x3, x4⟩ := mcells HM1.out
  obtain ⟨z0, z1, z2, z3, z4⟩ := mcells HO1.out
  go_wp2_with fail
  clear x0 x1 x2 x3 x4 z0 z1 z2 z3 z4
  refine (HENO.out _ HT1.out).mono ?_
  rw [HEO.out.1, HEO.out.2]
  rintro e w2 ⟨p2, c2, rfl, hs2, hb2, _, hm2⟩
  have HM2 := Lib.hid (block_later HM1.out hb2)
  have HO2 := Lib.hid (block_later HO1.out hb2)
  have HB2 := Lib.hid (HB1.out.trans (hb2.mono HB1.out.size))
  have HT2 := Lib.hid (HT1.out.later hb2 HT1.out.lt)
  have HS12 := Lib.hid (HS1.out.later hb2)
  have HS2 := Lib.hid hs2
  have HMX2 := Lib.hid hm2
  clear hb2 hs2 hm2 HM1 HO1 HB1 HT1 HS1
  have HL2 := Lib.hid (bytesM_len ⟨g2, a2, r2, t2, s2⟩)
  rw [HL2.out] at HS2 ⊢
  obtain ⟨x0, x1, x2, x3, x4⟩ := mcells HM2.out
  obtain ⟨z0, z1, z2, z3, z4⟩ := mcells HO2.out
  go_wp2_with fail
  refine (works16 _ HT2.out).mono ?_
  rintro e w9 ⟨rfl, h6⟩
  have HF := Lib.hid (HB2.out.trans (h6.mono HB2.out.size))
  clear h6
  go_wp2_with fail
  go_ret
  exact ⟨rfl, HF.out⟩
set_option maxHeartbeats 2000000 in
theorem mtorn_badb (g a r t s g2 a2 r2 t2 s2 n k : Nat) (hm : Mv.ok ⟨g, a, r, t, s⟩) (ho : Mv.ok ⟨g2, a2, r2, t2, s2⟩) (hn : n < 256) (hnk : n % 46 = k) (w : World) (hT : Tab w) (hgood : goodM ⟨g, a, r, t, s⟩ = false) (hgo : goodM ⟨g2, a2, r2, t2, s2⟩ = false) :
    Calls Tryd.prog 6 #[.agg #[.int .u64 (g : Int), .int .u8 (a : Int), .int .i64 (sgn r), .int .i64 (sgn t), .int .i64 (sgn s)], .agg #[.int .u64 (g2 : Int), .int .u8 (a2 : Int), .int .i64 (sgn r2), .int .i64 (sgn t2), .int .i64 (sgn s2)], .int .u8 (n : Int)] w fun e w' => e = .returned (.bool true) ∧ Below w.heap.size w w' := by
  have henc : ∀ w', Tab w' → Calls Tryd.prog 7 #[.agg #[.int .u64 (g : Int), .int .u8 (a : Int), .int .i64 (sgn r), .int .i64 (sgn t), .int .i64 (sgn s)]] w' (GivesE w' (encL ⟨g, a, r, t, s⟩) (encE ⟨g, a, r, t, s⟩)) := fun w' hT' => menc_any ⟨g, a, r, t, s⟩ hm w' hT'
  have heno : ∀ w', Tab w' → Calls Tryd.prog 7 #[.agg #[.int .u64 (g2 : Int), .int .u8 (a2 : Int), .int .i64 (sgn r2), .int .i64 (sgn t2), .int .i64 (sgn s2)]] w' (GivesE w' (encL ⟨g2, a2, r2, t2, s2⟩) (encE ⟨g2, a2, r2, t2, s2⟩)) := fun w' hT' => menc_any ⟨g2, a2, r2, t2, s2⟩ ho w' hT'
  obtain ⟨hb0, hxo⟩ := mtwo w #[.int .u64 (g : Int), .int .u8 (a : Int), .int .i64 (sgn r), .int .i64 (sgn t), .int .i64 (sgn s)] #[.int .u64 (g2 : Int), .int .u8 (a2 : Int), .int .i64 (sgn r2), .int .i64 (sgn t2), .int .i64 (sgn s2)] 24 24
  have hxm := block_later (alloc_block w (.cells #[.int .u64 (g : Int), .int .u8 (a : Int), .int .i64 (sgn r), .int .i64 (sgn t), .int .i64 (sgn s)] 24)) ((Below.refl _ _).alloc (Nat.le_refl _) (.cells #[.int .u64 (g2 : Int), .int .u8 (a2 : Int), .int .i64 (sgn r2), .int .i64 (sgn t2), .int .i64 (sgn s2)] 24))
  have HB0 := Lib.hid hb0
  have HT0 := Lib.hid (hT.later hb0 hT.lt)
  have HO0 := Lib.hid hxo
  have HM0 := Lib.hid hxm
  obtain ⟨X, hX⟩ : ∃ X, w.heap.size = X := ⟨_, rfl⟩
  rw [hX] at HO0 HM0
  have HENC := Lib.hid henc
  have HENO := Lib.hid heno
  have HMO := Lib.hid (show Mv.ok ⟨g, a, r, t, s⟩ ∧ Mv.ok ⟨g2, a2, r2, t2, s2⟩ from ⟨hm, ho⟩)
  clear hb0 hxo hxm hT henc heno hm ho
  obtain ⟨x0, x1, x2, x3, x4⟩ := mcells HM0.out
  obtain ⟨z0, z1, z2, z3, z4⟩ := mcells HO0.out
  have HEN := Lib.hid (encL_bad hgood)
  have HEO := Lib.hid (encL_bad hgo)
  clear hgood hgo
  go_enter Tryd.func6, Tryd.ntmps6
  go_wp2_with fail
  refine (HENC.out _ HT0.out).mono ?_
  rw [HEN.out.1, HEN.out.2]
  rintro e w1 ⟨p1, c1, rfl, hs1, hb1, _, hm1⟩
  have HM1 := Lib.hid (block_later HM0.out hb1)
  have HO1 := Lib.hid (block_later HO0.out hb1)
  have HB1 := Lib.hid (HB0.out.trans (hb1.mono HB0.out.size))
  have HT1 := Lib.hid (HT0.out.later hb1 HT0.out.lt)
  have HS1 := Lib.hid hs1
  have HMX := Lib.hid hm1
  clear hb1 hs1 hm1 HM0 HO0 HB0 HT0 x0 x1 x2 x3 x4 z0 z1 z2 z3 z4 hX
  obtain ⟨x0, x1, x2, x3, x4⟩ := mcells HM1.out
  obtain ⟨z0, z1, z2, z3, z4⟩ := mcells HO1.out
  go_wp2_with fail
  clear x0 x1 x2 x3 x4 z0 z1 z2 z3 z4
  refine (HENO.out _ HT1.out).mono ?_
  rw [HEO.out.1, HEO.out.2]
  rintro e w2 ⟨p2, c2, rfl, hs2, hb2, _, hm2⟩
  have HM2 := Lib.hid (block_later HM1.out hb2)
  have HO2 := Lib.hid (block_later HO1.out hb2)
  have HB2 := Lib.hid (HB1.out.trans (hb2.mono HB1.out.size))
  have HT2 := Lib.hid (HT1.out.later hb2 HT1.out.lt)
  have HS12 := Lib.hid (HS1.out.later hb2)
  have HS2 := Lib.hid hs2
  have HMX2 := Lib.hid hm2
  clear hb2 hs2 hm2 HM1 HO1 HB1 HT1 HS1
  obtain ⟨x0, x1, x2, x3, x4⟩ := mcells HM2.out
  obtain ⟨z0, z1, z2, z3, z4⟩ := mcells HO2.out
  go_wp2_with fail
  refine (works16 _ HT2.out).mono ?_
  rintro e w9 ⟨rfl, h6⟩
  have HF := Lib.hid (HB2.out.trans (h6.mono HB2.out.size))
  clear h6
  go_wp2_with fail
  go_ret
  exact ⟨rfl, HF.out⟩
set_option maxHeartbeats 2000000 in
theorem mtorn_badc (g a r t s g2 a2 r2 t2 s2 n k : Nat) (hm : Mv.ok ⟨g, a, r, t, s⟩) (ho : Mv.ok ⟨g2, a2, r2, t2, s2⟩) (hn : n < 256) (hnk : n % 46 = k) (w : World) (hT : Tab w) (hgood : goodM ⟨g, a, r, t, s⟩ = true) (hgo : goodM ⟨g2, a2, r2, t2, s2⟩ = false) :
    Calls Tryd.prog 6 #[.agg #[.int .u64 (g : Int), .int .u8 (a : Int), .int .i64 (sgn r), .int .i64 (sgn t), .int .i64 (sgn s)], .agg #[.int .u64 (g2 : Int), .int .u8 (a2 : Int), .int .i64 (sgn r2), .int .i64 (sgn t2), .int .i64 (sgn s2)], .int .u8 (n : Int)] w fun e w' => e = .returned (.bool true) ∧ Below w.heap.size w w' := by
  have henc : ∀ w', Tab w' → Calls Tryd.prog 7 #[.agg #[.int .u64 (g : Int), .int .u8 (a : Int), .int .i64 (sgn r), .int .i64 (sgn t), .int .i64 (sgn s)]] w' (GivesE w' (encL ⟨g, a, r, t, s⟩) (encE ⟨g, a, r, t, s⟩)) := fun w' hT' => menc_any ⟨g, a, r, t, s⟩ hm w' hT'
  have heno : ∀ w', Tab w' → Calls Tryd.prog 7 #[.agg #[.int .u64 (g2 : Int), .int .u8 (a2 : Int), .int .i64 (sgn r2), .int .i64 (sgn t2), .int .i64 (sgn s2)]] w' (GivesE w' (encL ⟨g2, a2, r2, t2, s2⟩) (encE ⟨g2, a2, r2, t2, s2⟩)) := fun w' hT' => menc_any ⟨g2, a2, r2, t2, s2⟩ ho w' hT'
  obtain ⟨hb0, hxo⟩ := mtwo w #[.int .u64 (g : Int), .int .u8 (a : Int), .int .i64 (sgn r), .int .i64 (sgn t), .int .i64 (sgn s)] #[.int .u64 (g2 : Int), .int .u8 (a2 : Int), .int .i64 (sgn r2), .int .i64 (sgn t2), .int .i64 (sgn s2)] 24 24
  have hxm := block_later (alloc_block w (.cells #[.int .u64 (g : Int), .int .u8 (a : Int), .int .i64 (sgn r), .int .i64 (sgn t), .int .i64 (sgn s)] 24)) ((Below.refl _ _).alloc (Nat.le_refl _) (.cells #[.int .u64 (g2 : Int), .int .u8 (a2 : Int), .int .i64 (sgn r2), .int .i64 (sgn t2), .int .i64 (sgn s2)] 24))
  have HB0 := Lib.hid hb0
  have HT0 := Lib.hid (hT.later hb0 hT.lt)
  have HO0 := Lib.hid hxo
  have HM0 := Lib.hid hxm
  obtain ⟨X, hX⟩ : ∃ X, w.heap.size = X := ⟨_, rfl⟩
  rw [hX] at HO0 HM0
  have HENC := Lib.hid henc
  have HENO := Lib.hid heno
  have HMO := Lib.hid (show Mv.ok ⟨g, a, r, t, s⟩ ∧ Mv.ok ⟨g2, a2, r2, t2, s2⟩ from ⟨hm, ho⟩)
  clear hb0 hxo hxm hT henc heno hm ho
  obtain ⟨x0, x1, x2, x3, x4⟩ := mcells HM0.out
  obtain ⟨z0, z1, z2, z3, z4⟩ := mcells HO0.out
  have HEN := Lib.hid (encL_good hgood)
  have HEO := Lib.hid (encL_bad hgo)
  clear hgood hgo
  go_enter Tryd.func6, Tryd.ntmps6
  go_wp2_with fail
  refine (HENC.out _ HT0.out).mono ?_
  rw [HEN.out.1, HEN.out.2]
  rintro e w1 ⟨p1, c1, rfl, hs1, hb1, _, hm1⟩
  have HM1 := Lib.hid (block_later HM0.out hb1)
  have HO1 := Lib.hid (block_later HO0.out hb1)
  have HB1 := Lib.hid (HB0.out.trans (hb1.mono HB0.out.size))
  have HT1 := Lib.hid (HT0.out.later hb1 HT0.out.lt)
  have HS1 := Lib.hid hs1
  have HMX := Lib.hid hm1
  clear hb1 hs1 hm1 HM0 HO0 HB0 HT0 x0 x1 x2 x3 x4 z0 z1 z2 z3 z4 hX
  have HL1 := Lib.hid (bytesM_len ⟨g, a, r, t, s⟩)
  rw [HL1.out] at HS1 ⊢
  obtain ⟨x0, x1, x2, x3, x4⟩ := mcells HM1.out
  obtain ⟨z0, z1, z2, z3, z4⟩ := mcells HO1.out
  go_wp2_with fail
  clear x0 x1 x2 x3 x4 z0 z1 z2 z3 z4
  refine (HENO.out _ HT1.out).mono ?_
  rw [HEO.out.1, HEO.out.2]
  rintro e w2 ⟨p2, c2, rfl, hs2, hb2, _, hm2⟩
  have HM2 := Lib.hid (block_later HM1.out hb2)
  have HO2 := Lib.hid (block_later HO1.out hb2)
  have HB2 := Lib.hid (HB1.out.trans (hb2.mono HB1.out.size))
  have HT2 := Lib.hid (HT1.out.later hb2 HT1.out.lt)
  have HS12 := Lib.hid (HS1.out.later hb2)
  have HS2 := Lib.hid hs2
  have HMX2 := Lib.hid hm2
  clear hb2 hs2 hm2 HM1 HO1 HB1 HT1 HS1
  obtain ⟨x0, x1, x2, x3, x4⟩ := mcells HM2.out
  obtain ⟨z0, z1, z2, z3, z4⟩ := mcells HO2.out
  go_wp2_with fail
  refine (works16 _ HT2.out).mono ?_
  rintro e w9 ⟨rfl, h6⟩
  have HF := Lib.hid (HB2.out.trans (h6.mono HB2.out.size))
  clear h6
  go_wp2_with fail
  go_ret
  exact ⟨rfl, HF.out⟩
set_option maxHeartbeats 2000000 in
theorem mtorn_same (g a r t s g2 a2 r2 t2 s2 n k : Nat) (hm : Mv.ok ⟨g, a, r, t, s⟩) (ho : Mv.ok ⟨g2, a2, r2, t2, s2⟩) (hn : n < 256) (hnk : n % 46 = k) (w : World) (hT : Tab w) (hgood : goodM ⟨g, a, r, t, s⟩ = true) (hgo : goodM ⟨g2, a2, r2, t2, s2⟩ = true) (hg : g = g2) :
    Calls Tryd.prog 6 #[.agg #[.int .u64 (g : Int), .int .u8 (a : Int), .int .i64 (sgn r), .int .i64 (sgn t), .int .i64 (sgn s)], .agg #[.int .u64 (g2 : Int), .int .u8 (a2 : Int), .int .i64 (sgn r2), .int .i64 (sgn t2), .int .i64 (sgn s2)], .int .u8 (n : Int)] w fun e w' => e = .returned (.bool true) ∧ Below w.heap.size w w' := by
  have henc : ∀ w', Tab w' → Calls Tryd.prog 7 #[.agg #[.int .u64 (g : Int), .int .u8 (a : Int), .int .i64 (sgn r), .int .i64 (sgn t), .int .i64 (sgn s)]] w' (GivesE w' (encL ⟨g, a, r, t, s⟩) (encE ⟨g, a, r, t, s⟩)) := fun w' hT' => menc_any ⟨g, a, r, t, s⟩ hm w' hT'
  have heno : ∀ w', Tab w' → Calls Tryd.prog 7 #[.agg #[.int .u64 (g2 : Int), .int .u8 (a2 : Int), .int .i64 (sgn r2), .int .i64 (sgn t2), .int .i64 (sgn s2)]] w' (GivesE w' (encL ⟨g2, a2, r2, t2, s2⟩) (encE ⟨g2, a2, r2, t2, s2⟩)) := fun w' hT' => menc_any ⟨g2, a2, r2, t2, s2⟩ ho w' hT'
  obtain ⟨hb0, hxo⟩ := mtwo w #[.int .u64 (g : Int), .int .u8 (a : Int), .int .i64 (sgn r), .int .i64 (sgn t), .int .i64 (sgn s)] #[.int .u64 (g2 : Int), .int .u8 (a2 : Int), .int .i64 (sgn r2), .int .i64 (sgn t2), .int .i64 (sgn s2)] 24 24
  have hxm := block_later (alloc_block w (.cells #[.int .u64 (g : Int), .int .u8 (a : Int), .int .i64 (sgn r), .int .i64 (sgn t), .int .i64 (sgn s)] 24)) ((Below.refl _ _).alloc (Nat.le_refl _) (.cells #[.int .u64 (g2 : Int), .int .u8 (a2 : Int), .int .i64 (sgn r2), .int .i64 (sgn t2), .int .i64 (sgn s2)] 24))
  have HB0 := Lib.hid hb0
  have HT0 := Lib.hid (hT.later hb0 hT.lt)
  have HO0 := Lib.hid hxo
  have HM0 := Lib.hid hxm
  obtain ⟨X, hX⟩ : ∃ X, w.heap.size = X := ⟨_, rfl⟩
  rw [hX] at HO0 HM0
  have HENC := Lib.hid henc
  have HENO := Lib.hid heno
  have HMO := Lib.hid (show Mv.ok ⟨g, a, r, t, s⟩ ∧ Mv.ok ⟨g2, a2, r2, t2, s2⟩ from ⟨hm, ho⟩)
  clear hb0 hxo hxm hT henc heno hm ho
  obtain ⟨x0, x1, x2, x3, x4⟩ := mcells HM0.out
  obtain ⟨z0, z1, z2, z3, z4⟩ := mcells HO0.out
  have HEN := Lib.hid (encL_good hgood)
  have HEO := Lib.hid (encL_good hgo)
  have hgb : ((g : Int) == (g2 : Int)) = true := by subst hg; simp
  have hgb2 : (g == g2) = true := by subst hg; simp
  clear hgood hgo hg
  go_enter Tryd.func6, Tryd.ntmps6
  go_wp2_with fail
  refine (HENC.out _ HT0.out).mono ?_
  rw [HEN.out.1, HEN.out.2]
  rintro e w1 ⟨p1, c1, rfl, hs1, hb1, _, hm1⟩
  have HM1 := Lib.hid (block_later HM0.out hb1)
  have HO1 := Lib.hid (block_later HO0.out hb1)
  have HB1 := Lib.hid (HB0.out.trans (hb1.mono HB0.out.size))
  have HT1 := Lib.hid (HT0.out.later hb1 HT0.out.lt)
  have HS1 := Lib.hid hs1
  have HMX := Lib.hid hm1
  clear hb1 hs1 hm1 HM0 HO0 HB0 HT0 x0 x1 x2 x3 x4 z0 z1 z2 z3 z4 hX
  have HL1 := Lib.hid (bytesM_len ⟨g, a, r, t, s⟩)
  rw [HL1.out] at HS1 ⊢
  obtain ⟨x0, x1, x2, x3, x4⟩ := mcells HM1.out
  obtain ⟨z0, z1, z2, z3, z4⟩ := mcells HO1.out
  go_wp2_with fail
  clear x0 x1 x2 x3 x4 z0 z1 z2 z3 z4
  refine (HENO.out _ HT1.out).mono ?_
  rw [HEO.out.1, HEO.out.2]
  rintro e w2 ⟨p2, c2, rfl, hs2, hb2, _, hm2⟩
  have HM2 := Lib.hid (block_later HM1.out hb2)
  have HO2 := Lib.hid (block_later HO1.out hb2)
  have HB2 := Lib.hid (HB1.out.trans (hb2.mono HB1.out.size))
  have HT2 := Lib.hid (HT1.out.later hb2 HT1.out.lt)
  have HS12 := Lib.hid (HS1.out.later hb2)
  have HS2 := Lib.hid hs2
  have HMX2 := Lib.hid hm2
  clear hb2 hs2 hm2 HM1 HO1 HB1 HT1 HS1
  have HL2 := Lib.hid (bytesM_len ⟨g2, a2, r2, t2, s2⟩)
  rw [HL2.out] at HS2 ⊢
  obtain ⟨x0, x1, x2, x3, x4⟩ := mcells HM2.out
  obtain ⟨z0, z1, z2, z3, z4⟩ := mcells HO2.out
  go_wp2_with fail
  refine (works16 _ HT2.out).mono ?_
  rintro e w9 ⟨rfl, h6⟩
  have HF := Lib.hid (HB2.out.trans (h6.mono HB2.out.size))
  clear h6
  go_wp2_with fail
  go_ret
  exact ⟨rfl, HF.out⟩
set_option maxHeartbeats 2000000 in
theorem mtorn_none (g a r t s g2 a2 r2 t2 s2 n k : Nat) (hm : Mv.ok ⟨g, a, r, t, s⟩) (ho : Mv.ok ⟨g2, a2, r2, t2, s2⟩) (hn : n < 256) (hnk : n % 46 = k) (w : World) (hT : Tab w) (hgood : goodM ⟨g, a, r, t, s⟩ = true) (hgo : goodM ⟨g2, a2, r2, t2, s2⟩ = true) (hg : g ≠ g2) (hkz : k = 0) :
    Calls Tryd.prog 6 #[.agg #[.int .u64 (g : Int), .int .u8 (a : Int), .int .i64 (sgn r), .int .i64 (sgn t), .int .i64 (sgn s)], .agg #[.int .u64 (g2 : Int), .int .u8 (a2 : Int), .int .i64 (sgn r2), .int .i64 (sgn t2), .int .i64 (sgn s2)], .int .u8 (n : Int)] w fun e w' => e = .returned (.bool true) ∧ Below w.heap.size w w' := by
  have henc : ∀ w', Tab w' → Calls Tryd.prog 7 #[.agg #[.int .u64 (g : Int), .int .u8 (a : Int), .int .i64 (sgn r), .int .i64 (sgn t), .int .i64 (sgn s)]] w' (GivesE w' (encL ⟨g, a, r, t, s⟩) (encE ⟨g, a, r, t, s⟩)) := fun w' hT' => menc_any ⟨g, a, r, t, s⟩ hm w' hT'
  have heno : ∀ w', Tab w' → Calls Tryd.prog 7 #[.agg #[.int .u64 (g2 : Int), .int .u8 (a2 : Int), .int .i64 (sgn r2), .int .i64 (sgn t2), .int .i64 (sgn s2)]] w' (GivesE w' (encL ⟨g2, a2, r2, t2, s2⟩) (encE ⟨g2, a2, r2, t2, s2⟩)) := fun w' hT' => menc_any ⟨g2, a2, r2, t2, s2⟩ ho w' hT'
  obtain ⟨hb0, hxo⟩ := mtwo w #[.int .u64 (g : Int), .int .u8 (a : Int), .int .i64 (sgn r), .int .i64 (sgn t), .int .i64 (sgn s)] #[.int .u64 (g2 : Int), .int .u8 (a2 : Int), .int .i64 (sgn r2), .int .i64 (sgn t2), .int .i64 (sgn s2)] 24 24
  have hxm := block_later (alloc_block w (.cells #[.int .u64 (g : Int), .int .u8 (a : Int), .int .i64 (sgn r), .int .i64 (sgn t), .int .i64 (sgn s)] 24)) ((Below.refl _ _).alloc (Nat.le_refl _) (.cells #[.int .u64 (g2 : Int), .int .u8 (a2 : Int), .int .i64 (sgn r2), .int .i64 (sgn t2), .int .i64 (sgn s2)] 24))
  have HB0 := Lib.hid hb0
  have HT0 := Lib.hid (hT.later hb0 hT.lt)
  have HO0 := Lib.hid hxo
  have HM0 := Lib.hid hxm
  obtain ⟨X, hX⟩ : ∃ X, w.heap.size = X := ⟨_, rfl⟩
  rw [hX] at HO0 HM0
  have HENC := Lib.hid henc
  have HENO := Lib.hid heno
  have HMO := Lib.hid (show Mv.ok ⟨g, a, r, t, s⟩ ∧ Mv.ok ⟨g2, a2, r2, t2, s2⟩ from ⟨hm, ho⟩)
  clear hb0 hxo hxm hT henc heno hm ho
  obtain ⟨x0, x1, x2, x3, x4⟩ := mcells HM0.out
  obtain ⟨z0, z1, z2, z3, z4⟩ := mcells HO0.out
  have HEN := Lib.hid (encL_good hgood)
  have HEO := Lib.hid (encL_good hgo)
  have hk1 : ((k : Int) == 0) = true := by subst hkz; rfl
  have hk2 : ((k : Int) == 45) = false := by subst hkz; rfl
  have hk3 : (k == 0) = true := by subst hkz; rfl
  have hk4 : (k == 45) = false := by subst hkz; rfl
  have HKZ := Lib.hid hkz
  have hres := torn_none (a := ⟨g, a, r, t, s⟩) ⟨g2, a2, r2, t2, s2⟩ HMO.out.1 hgood
  rw [← hkz] at hres
  have HRES := Lib.hid hres
  clear hres hkz
  have hg1 : ((g : Int) == (g2 : Int)) = false := by simpa using fun h => hg (by exact_mod_cast h)
  have hg2 : ((g2 : Int) == (g : Int)) = false := by simpa using fun h => hg (by exact_mod_cast h.symm)
  have hg3 : (g == g2) = false := by simpa using hg
  have hg4 : (g2 == g) = false := by simpa using fun h => hg h.symm
  clear hgood hgo hg
  go_enter Tryd.func6, Tryd.ntmps6
  go_wp2_with fail
  refine (HENC.out _ HT0.out).mono ?_
  rw [HEN.out.1, HEN.out.2]
  rintro e w1 ⟨p1, c1, rfl, hs1, hb1, _, hm1⟩
  have HM1 := Lib.hid (block_later HM0.out hb1)
  have HO1 := Lib.hid (block_later HO0.out hb1)
  have HB1 := Lib.hid (HB0.out.trans (hb1.mono HB0.out.size))
  have HT1 := Lib.hid (HT0.out.later hb1 HT0.out.lt)
  have HS1 := Lib.hid hs1
  have HMX := Lib.hid hm1
  clear hb1 hs1 hm1 HM0 HO0 HB0 HT0 x0 x1 x2 x3 x4 z0 z1 z2 z3 z4 hX
  have HL1 := Lib.hid (bytesM_len ⟨g, a, r, t, s⟩)
  rw [HL1.out] at HS1 ⊢
  obtain ⟨x0, x1, x2, x3, x4⟩ := mcells HM1.out
  obtain ⟨z0, z1, z2, z3, z4⟩ := mcells HO1.out
  go_wp2_with fail
  clear x0 x1 x2 x3 x4 z0 z1 z2 z3 z4
  refine (HENO.out _ HT1.out).mono ?_
  rw [HEO.out.1, HEO.out.2]
  rintro e w2 ⟨p2, c2, rfl, hs2, hb2, _, hm2⟩
  have HM2 := Lib.hid (block_later HM1.out hb2)
  have HO2 := Lib.hid (block_later HO1.out hb2)
  have HB2 := Lib.hid (HB1.out.trans (hb2.mono HB1.out.size))
  have HT2 := Lib.hid (HT1.out.later hb2 HT1.out.lt)
  have HS12 := Lib.hid (HS1.out.later hb2)
  have HS2 := Lib.hid hs2
  have HMX2 := Lib.hid hm2
  clear hb2 hs2 hm2 HM1 HO1 HB1 HT1 HS1
  have HL2 := Lib.hid (bytesM_len ⟨g2, a2, r2, t2, s2⟩)
  rw [HL2.out] at HS2 ⊢
  obtain ⟨x0, x1, x2, x3, x4⟩ := mcells HM2.out
  obtain ⟨z0, z1, z2, z3, z4⟩ := mcells HO2.out
  have hk45 : k ≤ 45 := by omega
  have hm1 : (n : Int) % 46 = (k : Int) := by omega
  have hm2 : (n : Int).tmod 46 = (k : Int) := by rw [Int.tmod_eq_emod_of_nonneg (by omega)]; omega
  have hca := HS12.out.cap
  have hcb := HS2.out.cap
  have hcm1 : c1 ≤ 9223372036854775807 := HMX.out
  have hcm2 : c2 ≤ 9223372036854775807 := HMX2.out
  obtain ⟨b1, o1, rfl, _, _⟩ := HS12.out.blk (by omega)
  go_upto_region 8 with (fail)
  clear x0 x1 x2 x3 x4 z0 z1 z2 z3 z4
  have e1 : (k : Int) ≤ 45 := by omega
  have e2 : (k : Int) ≤ (c1 : Int) := by omega
  have e3 : (k : Int) ≤ (c2 : Int) := by omega
  have hbd : Below w.heap.size w w2.drew := below_drewN HB2.out 1
  refine wp_region_held_drew (S := fun w' => Hid (Below w.heap.size w w')) (by kernel_rfl) (Lib.hid hbd) (fun hHeld => ?_)
  have HB3 := Lib.hid hbd
  have HM3 := Lib.hid (show w2.drew.heap[X]? = _ from HM2.out)
  have HO3 := Lib.hid (show w2.drew.heap[X + 1]? = _ from HO2.out)
  have HT3 := Lib.hid (HT2.out.later (Below.refl w2.heap.size w2).drew HT2.out.lt)
  have HSB := Lib.hid ((HS2.out.later (Below.refl w2.heap.size w2).drew).take k hk45)
  have hsr := (HS12.out.later (Below.refl w2.heap.size w2).drew).drop k hk45
  generalize hLB : (bytesM ⟨g2, a2, r2, t2, s2⟩).take k = LB at *
  generalize hLA : (bytesM ⟨g, a, r, t, s⟩).drop k = LA at *
  have HTO : Hid (LB ++ LA = tornM ⟨g, a, r, t, s⟩ ⟨g2, a2, r2, t2, s2⟩ k) := Lib.hid (by rw [← hLA, ← hLB]; rfl)
  clear hbd hLB hLA HM2 HO2 HB2 HT2
  generalize w2.drew = W2 at *
  have hck : ¬ c1 = k := by have := HKZ.out; omega
  rw [if_neg hck, Option.map_some, Go.WideShapes.add_plain] at hsr
  have HSR := Lib.hid hsr
  clear hsr
  refine wpAnyH_take (i := 1) (oi := ⟨some 51, _, _, _, _, _⟩) (v := .slice p2 45 c2) rfl (by kernel_rfl) (by kernel_rfl) (by kernel_rfl) (fun _ _ _ h => h) (Or.inl ⟨by rfl, fun w' hw' => ?_⟩) (by assumption) ?_
  · clear hHeld
    go_simp
  try simp only [Act.put, List.setIfInBounds_toArray, List.set_cons_zero, List.set_cons_succ]
  refine wpAnyH_take (i := 2) (oi := ⟨some 52, _, _, _, _, _⟩) (v := .int .i64 (k : Int)) rfl (by kernel_rfl) (by kernel_rfl) (by kernel_rfl) (fun _ _ _ h => h) (Or.inl ⟨by rfl, fun w' hw' => ?_⟩) (by assumption) ?_
  · clear hHeld
    go_simp
  try simp only [Act.put, List.setIfInBounds_toArray, List.set_cons_zero, List.set_cons_succ]
  refine wpAnyH_take (i := 3) (oi := ⟨some 53, _, _, _, _, _⟩) (v := .slice p2 k c2) rfl (by kernel_rfl) (by kernel_rfl) (by kernel_rfl) (fun _ _ _ h => h) (Or.inl ⟨by rfl, fun w' hw' => ?_⟩) (by assumption) ?_
  · clear hHeld
    go_simp
  try simp only [Act.put, List.setIfInBounds_toArray, List.set_cons_zero, List.set_cons_succ]
  refine wpAnyH_take (i := 5) (oi := ⟨some 55, _, _, _, _, _⟩) (v := .slice (some ⟨b1, o1, none⟩) 45 c1) rfl (by kernel_rfl) (by kernel_rfl) (by kernel_rfl) (fun _ _ _ h => h) (Or.inl ⟨by rfl, fun w' hw' => ?_⟩) (by assumption) ?_
  · clear hHeld
    go_simp
  try simp only [Act.put, List.setIfInBounds_toArray, List.set_cons_zero, List.set_cons_succ]
  refine wpAnyH_take (i := 6) (oi := ⟨some 56, _, _, _, _, _⟩) (v := .int .i64 (k : Int)) rfl (by kernel_rfl) (by kernel_rfl) (by kernel_rfl) (fun _ _ _ h => h) (Or.inl ⟨by rfl, fun w' hw' => ?_⟩) (by assumption) ?_
  · clear hHeld
    go_simp
  try simp only [Act.put, List.setIfInBounds_toArray, List.set_cons_zero, List.set_cons_succ]
  refine wpAnyH_take (i := 7) (oi := ⟨some 57, _, _, _, _, _⟩) (v := .slice (some ⟨b1, o1 + k, none⟩) (45 - k) (c1 - k)) rfl (by kernel_rfl) (by kernel_rfl) (by kernel_rfl) (fun _ _ _ h => h) (Or.inl ⟨by rfl, fun w' hw' => ?_⟩) (by assumption) ?_
  · clear hHeld
    go_simp
  try simp only [Act.put, List.setIfInBounds_toArray, List.set_cons_zero, List.set_cons_succ]
  refine wpAnyH_ready (rs := [0]) (by kernel_rfl) (by simp) (AllReadyH.cons rfl (fun K hK => ?_) AllReadyH.nil)
  go_simp
  have hba : Below W2.heap.size W2 (W2.alloc (.cells #[] 5)) := (Below.refl _ _).alloc (Nat.le_refl _) _
  refine hK.out _ _ (Lib.hid (HB3.out.trans (hba.mono HB3.out.size))) (fun hHeld2 => ?_)
  clear hK K hHeld
  have hHeld := hHeld2
  clear hHeld2
  try simp only [Act.put, List.setIfInBounds_toArray, List.set_cons_zero, List.set_cons_succ]
  have HOWN := Lib.hid (own_none W2)
  have HSA := Lib.hid (HSB.out.later hba)
  have HBA := Lib.hid hba
  clear hba
  refine wpAnyH_ready (rs := [4]) (by kernel_rfl) (by simp) (AllReadyH.cons rfl (fun K hK => ?_) AllReadyH.nil)
  refine step_append_vals (by decide) Tryd.underlying25 info_u8 rfl (by omega) rfl (.tmp 50) (.tmp 53) rfl (.slice (some ⟨W2.heap.size, 0, none⟩) 0 0) 0 (vL []) (by simp [Act.eval]) HOWN.out.own p2 k c2 (vL LB) (by simp [Act.eval]) (mnews HSA.out).1 (mnews HSA.out).2.1 (mnews HSA.out).2.2 (vL_one _) (by omega) ?_
  intro p4 c4 W4 g1 g2' g3
  have hb4 : Below W2.heap.size W2 W4 := g2'.below HBA.out HBA.out.size fun j hj => by cases hj; exact Nat.le_refl _
  refine hK.out _ _ (Lib.hid (HB3.out.trans (hb4.mono HB3.out.size))) (fun hHeld2 => ?_)
  clear hK K hHeld
  have hHeld := hHeld2
  clear hHeld2
  try simp only [Act.put, List.setIfInBounds_toArray, List.set_cons_zero, List.set_cons_succ]
  have HR4 := Lib.hid g1
  have HK4 : Hid (∀ j, (Value.slice p4 (0 + k) c4).ownBlock = some j → W2.heap.size ≤ j) := Lib.hid fun j hj => by
    rcases g3 j hj with h | h
    · cases h; exact Nat.le_refl _
    · first | omega | (simp at h; omega)
  have HSC := Lib.hid (HSR.out.later hb4)
  have HB4 := Lib.hid hb4
  clear g1 g2' g3 hb4 HSA HBA HOWN
  refine wpAnyH_ready (rs := [8]) (by kernel_rfl) (by simp) (AllReadyH.cons rfl (fun K hK => ?_) AllReadyH.nil)
  refine step_append_vals (by decide) Tryd.underlying25 info_u8 rfl (by omega) rfl (.tmp 54) (.tmp 57) rfl (.slice p4 (0 + k) c4) (0 + k) (vL [] ++ vL LB) (by simp [Act.eval]) HR4.out (some ⟨b1, o1 + k, none⟩) (45 - k) (c1 - k) (vL LA) (by simp [Act.eval]) (mnews HSC.out).1 (mnews HSC.out).2.1 (mnews HSC.out).2.2 (vL_one _) (by omega) ?_
  intro p5 c5 W5 g1 g2' g3
  have hb5 : Below W2.heap.size W2 W5 := g2'.below HB4.out HB4.out.size fun j hj => HK4.out j hj
  refine hK.out _ _ (Lib.hid (HB3.out.trans (hb5.mono HB3.out.size))) (fun hHeld2 => ?_)
  clear hK K hHeld
  have hHeld := hHeld2
  clear hHeld2
  try simp only [Act.put, List.setIfInBounds_toArray, List.set_cons_zero, List.set_cons_succ]
  have hrow : Row W5 (.slice p5 45 c5) 45 (tornM ⟨g, a, r, t, s⟩ ⟨g2, a2, r2, t2, s2⟩ k) := by
    have hlen : 0 + k + (45 - k) = 45 := by omega
    rw [hlen] at g1
    refine ⟨tornM_len _ _ _ (by omega), tornM_lt _ _ _, ?_⟩
    have hv : vL [] ++ vL LB ++ vL LA = vL (tornM ⟨g, a, r, t, s⟩ ⟨g2, a2, r2, t2, s2⟩ k) := by rw [← vL_append, ← vL_append, List.nil_append, HTO.out]
    rw [hv] at g1
    exact g1
  have hlen : 0 + k + (45 - k) = 45 := by omega
  refine wpAnyH_take (i := 9) (oi := ⟨some 12, _, _, _, _, _⟩) (v := .slice p5 (0 + k + (45 - k)) c5) rfl (by kernel_rfl) (by kernel_rfl) (by kernel_rfl) (fun _ _ _ h => h) (Or.inl ⟨by rfl, fun w' hw' => ?_⟩) (by assumption) ?_
  · clear hHeld
    go_simp
  try simp only [Act.put, List.setIfInBounds_toArray, List.set_cons_zero, List.set_cons_succ]
  refine wpAnyH_done (by kernel_rfl) ?_ _
  clear hHeld
  rw [hlen]
  obtain ⟨q5, d5, he5, hm5, hs5, _⟩ := hrow.sl
  cases he5
  have HM5 := Lib.hid (block_later HM3.out hb5)
  have HO5 := Lib.hid (block_later HO3.out hb5)
  have HB5 := Lib.hid (HB3.out.trans (hb5.mono HB3.out.size))
  have HT5 := Lib.hid (HT3.out.later hb5 HT3.out.lt)
  have HD5 := Lib.hid hs5
  have HMX5 := Lib.hid hm5
  clear hrow hs5 hm5 hb5 g1 g2' g3 HR4 HK4 HSC HB4 hlen HSB HSR HM3 HO3 HB3 HT3
  go_wp2_with fail
  refine (mdec_any _ _ _ (tornM ⟨g, a, r, t, s⟩ ⟨g2, a2, r2, t2, s2⟩ k) _ HD5.out HMX5.out (by omega) HT5.out).mono ?_
  rw [HRES.out.1, HRES.out.2]
  rintro e w6 ⟨rfl, hb6⟩
  have hbn := ((Below.refl w6.heap.size w6).alloc (Nat.le_refl _) (.cells #[.int .u64 (g : Int), .int .u8 (a : Int), .int .i64 (sgn r), .int .i64 (sgn t), .int .i64 (sgn s)] 24))
  have HY6 := Lib.hid (alloc_block w6 (.cells #[.int .u64 (g : Int), .int .u8 (a : Int), .int .i64 (sgn r), .int .i64 (sgn t), .int .i64 (sgn s)] 24))
  have hbb := hb6.trans (hbn.mono hb6.size)
  have HM6 := Lib.hid (block_later HM5.out hbb)
  have HO6 := Lib.hid (block_later HO5.out hbb)
  have HB6 := Lib.hid (HB5.out.trans (hbb.mono HB5.out.size))
  have HT6 := Lib.hid (HT5.out.later hbb HT5.out.lt)
  clear hb6 hbn hbb HM5 HO5 HB5 HT5 HD5
  go_upto_region 10 with (fail)
  generalize w6.alloc (.cells #[.int .u64 (g : Int), .int .u8 (a : Int), .int .i64 (sgn r), .int .i64 (sgn t), .int .i64 (sgn s)] 24) = W6 at *
  generalize w6.heap.size = Y6 at *
  obtain ⟨x0, x1, x2, x3, x4⟩ := mcells HM6.out
  obtain ⟨y0, y1, y2, y3, y4⟩ := mcells HY6.out
  obtain ⟨z0, z1, z2, z3, z4⟩ := mcells HO6.out
  go_wp2_with fail
  refine (works16 _ HT6.out).mono ?_
  rintro e w9 ⟨rfl, h6⟩
  have HF := Lib.hid (HB6.out.trans (h6.mono HB6.out.size))
  clear h6
  go_wp2_with fail
  go_ret
  exact ⟨rfl, HF.out⟩
set_option maxHeartbeats 2000000 in
theorem mtorn_all (g a r t s g2 a2 r2 t2 s2 n k : Nat) (hm : Mv.ok ⟨g, a, r, t, s⟩) (ho : Mv.ok ⟨g2, a2, r2, t2, s2⟩) (hn : n < 256) (hnk : n % 46 = k) (w : World) (hT : Tab w) (hgood : goodM ⟨g, a, r, t, s⟩ = true) (hgo : goodM ⟨g2, a2, r2, t2, s2⟩ = true) (hg : g ≠ g2) (hkz : k = 45) :
    Calls Tryd.prog 6 #[.agg #[.int .u64 (g : Int), .int .u8 (a : Int), .int .i64 (sgn r), .int .i64 (sgn t), .int .i64 (sgn s)], .agg #[.int .u64 (g2 : Int), .int .u8 (a2 : Int), .int .i64 (sgn r2), .int .i64 (sgn t2), .int .i64 (sgn s2)], .int .u8 (n : Int)] w fun e w' => e = .returned (.bool true) ∧ Below w.heap.size w w' := by
  have henc : ∀ w', Tab w' → Calls Tryd.prog 7 #[.agg #[.int .u64 (g : Int), .int .u8 (a : Int), .int .i64 (sgn r), .int .i64 (sgn t), .int .i64 (sgn s)]] w' (GivesE w' (encL ⟨g, a, r, t, s⟩) (encE ⟨g, a, r, t, s⟩)) := fun w' hT' => menc_any ⟨g, a, r, t, s⟩ hm w' hT'
  have heno : ∀ w', Tab w' → Calls Tryd.prog 7 #[.agg #[.int .u64 (g2 : Int), .int .u8 (a2 : Int), .int .i64 (sgn r2), .int .i64 (sgn t2), .int .i64 (sgn s2)]] w' (GivesE w' (encL ⟨g2, a2, r2, t2, s2⟩) (encE ⟨g2, a2, r2, t2, s2⟩)) := fun w' hT' => menc_any ⟨g2, a2, r2, t2, s2⟩ ho w' hT'
  obtain ⟨hb0, hxo⟩ := mtwo w #[.int .u64 (g : Int), .int .u8 (a : Int), .int .i64 (sgn r), .int .i64 (sgn t), .int .i64 (sgn s)] #[.int .u64 (g2 : Int), .int .u8 (a2 : Int), .int .i64 (sgn r2), .int .i64 (sgn t2), .int .i64 (sgn s2)] 24 24
  have hxm := block_later (alloc_block w (.cells #[.int .u64 (g : Int), .int .u8 (a : Int), .int .i64 (sgn r), .int .i64 (sgn t), .int .i64 (sgn s)] 24)) ((Below.refl _ _).alloc (Nat.le_refl _) (.cells #[.int .u64 (g2 : Int), .int .u8 (a2 : Int), .int .i64 (sgn r2), .int .i64 (sgn t2), .int .i64 (sgn s2)] 24))
  have HB0 := Lib.hid hb0
  have HT0 := Lib.hid (hT.later hb0 hT.lt)
  have HO0 := Lib.hid hxo
  have HM0 := Lib.hid hxm
  obtain ⟨X, hX⟩ : ∃ X, w.heap.size = X := ⟨_, rfl⟩
  rw [hX] at HO0 HM0
  have HENC := Lib.hid henc
  have HENO := Lib.hid heno
  have HMO := Lib.hid (show Mv.ok ⟨g, a, r, t, s⟩ ∧ Mv.ok ⟨g2, a2, r2, t2, s2⟩ from ⟨hm, ho⟩)
  clear hb0 hxo hxm hT henc heno hm ho
  obtain ⟨x0, x1, x2, x3, x4⟩ := mcells HM0.out
  obtain ⟨z0, z1, z2, z3, z4⟩ := mcells HO0.out
  have HEN := Lib.hid (encL_good hgood)
  have HEO := Lib.hid (encL_good hgo)
  have hk1 : ((k : Int) == 0) = false := by subst hkz; rfl
  have hk2 : ((k : Int) == 45) = true := by subst hkz; rfl
  have hk3 : (k == 0) = false := by subst hkz; rfl
  have hk4 : (k == 45) = true := by subst hkz; rfl
  have HKZ := Lib.hid hkz
  have hres := torn_all ⟨g, a, r, t, s⟩ (b := ⟨g2, a2, r2, t2, s2⟩) HMO.out.2 hgo
  rw [← hkz] at hres
  have HRES := Lib.hid hres
  clear hres hkz
  have hg1 : ((g : Int) == (g2 : Int)) = false := by simpa using fun h => hg (by exact_mod_cast h)
  have hg2 : ((g2 : Int) == (g : Int)) = false := by simpa using fun h => hg (by exact_mod_cast h.symm)
  have hg3 : (g == g2) = false := by simpa using hg
  have hg4 : (g2 == g) = false := by simpa using fun h => hg h.symm
  clear hgood hgo hg
  go_enter Tryd.func6, Tryd.ntmps6
  go_wp2_with fail
  refine (HENC.out _ HT0.out).mono ?_
  rw [HEN.out.1, HEN.out.2]
  rintro e w1 ⟨p1, c1, rfl, hs1, hb1, _, hm1⟩
  have HM1 := Lib.hid (block_later HM0.out hb1)
  have HO1 := Lib.hid (block_later HO0.out hb1)
  have HB1 := Lib.hid (HB0.out.trans (hb1.mono HB0.out.size))
  have HT1 := Lib.hid (HT0.out.later hb1 HT0.out.lt)
  have HS1 := Lib.hid hs1
  have HMX := Lib.hid hm1
  clear hb1 hs1 hm1 HM0 HO0 HB0 HT0 x0 x1 x2 x3 x4 z0 z1 z2 z3 z4 hX
  have HL1 := Lib.hid (bytesM_len ⟨g, a, r, t, s⟩)
  rw [HL1.out] at HS1 ⊢
  obtain ⟨x0, x1, x2, x3, x4⟩ := mcells HM1.out
  obtain ⟨z0, z1, z2, z3, z4⟩ := mcells HO1.out
  go_wp2_with fail
  clear x0 x1 x2 x3 x4 z0 z1 z2 z3 z4
  refine (HENO.out _ HT1.out).mono ?_
  rw [HEO.out.1, HEO.out.2]
  rintro e w2 ⟨p2, c2, rfl, hs2, hb2, _, hm2⟩
  have HM2 := Lib.hid (block_later HM1.out hb2)
  have HO2 := Lib.hid (block_later HO1.out hb2)
  have HB2 := Lib.hid (HB1.out.trans (hb2.mono HB1.out.size))
  have HT2 := Lib.hid (HT1.out.later hb2 HT1.out.lt)
  have HS12 := Lib.hid (HS1.out.later hb2)
  have HS2 := Lib.hid hs2
  have HMX2 := Lib.hid hm2
  clear hb2 hs2 hm2 HM1 HO1 HB1 HT1 HS1
  have HL2 := Lib.hid (bytesM_len ⟨g2, a2, r2, t2, s2⟩)
  rw [HL2.out] at HS2 ⊢
  obtain ⟨x0, x1, x2, x3, x4⟩ := mcells HM2.out
  obtain ⟨z0, z1, z2, z3, z4⟩ := mcells HO2.out
  have hk45 : k ≤ 45 := by omega
  have hm1 : (n : Int) % 46 = (k : Int) := by omega
  have hm2 : (n : Int).tmod 46 = (k : Int) := by rw [Int.tmod_eq_emod_of_nonneg (by omega)]; omega
  have hca := HS12.out.cap
  have hcb := HS2.out.cap
  have hcm1 : c1 ≤ 9223372036854775807 := HMX.out
  have hcm2 : c2 ≤ 9223372036854775807 := HMX2.out
  obtain ⟨b1, o1, rfl, _, _⟩ := HS12.out.blk (by omega)
  go_upto_region 8 with (fail)
  clear x0 x1 x2 x3 x4 z0 z1 z2 z3 z4
  have e1 : (k : Int) ≤ 45 := by omega
  have e2 : (k : Int) ≤ (c1 : Int) := by omega
  have e3 : (k : Int) ≤ (c2 : Int) := by omega
  have hbd : Below w.heap.size w w2.drew := below_drewN HB2.out 1
  refine wp_region_held_drew (S := fun w' => Hid (Below w.heap.size w w')) (by kernel_rfl) (Lib.hid hbd) (fun hHeld => ?_)
  have HB3 := Lib.hid hbd
  have HM3 := Lib.hid (show w2.drew.heap[X]? = _ from HM2.out)
  have HO3 := Lib.hid (show w2.drew.heap[X + 1]? = _ from HO2.out)
  have HT3 := Lib.hid (HT2.out.later (Below.refl w2.heap.size w2).drew HT2.out.lt)
  have HSB := Lib.hid ((HS2.out.later (Below.refl w2.heap.size w2).drew).take k hk45)
  have hsr := (HS12.out.later (Below.refl w2.heap.size w2).drew).drop k hk45
  generalize hLB : (bytesM ⟨g2, a2, r2, t2, s2⟩).take k = LB at *
  generalize hLA : (bytesM ⟨g, a, r, t, s⟩).drop k = LA at *
  have HTO : Hid (LB ++ LA = tornM ⟨g, a, r, t, s⟩ ⟨g2, a2, r2, t2, s2⟩ k) := Lib.hid (by rw [← hLA, ← hLB]; rfl)
  clear hbd hLB hLA HM2 HO2 HB2 HT2
  generalize w2.drew = W2 at *
  by_cases hck : c1 = k
  · rw [if_pos hck] at hsr
    have hk0 : 45 - k = 0 ∧ c1 - k = 0 := by omega
    rw [hk0.1, hk0.2] at hsr
    have hk0a := hk0.1
    have HSR := Lib.hid hsr
    clear hsr hk0
    refine wpAnyH_take (i := 1) (oi := ⟨some 51, _, _, _, _, _⟩) (v := .slice p2 45 c2) rfl (by kernel_rfl) (by kernel_rfl) (by kernel_rfl) (fun _ _ _ h => h) (Or.inl ⟨by rfl, fun w' hw' => ?_⟩) (by assumption) ?_
    · clear hHeld
      go_simp
    try simp only [Act.put, List.setIfInBounds_toArray, List.set_cons_zero, List.set_cons_succ]
    refine wpAnyH_take (i := 2) (oi := ⟨some 52, _, _, _, _, _⟩) (v := .int .i64 (k : Int)) rfl (by kernel_rfl) (by kernel_rfl) (by kernel_rfl) (fun _ _ _ h => h) (Or.inl ⟨by rfl, fun w' hw' => ?_⟩) (by assumption) ?_
    · clear hHeld
      go_simp
    try simp only [Act.put, List.setIfInBounds_toArray, List.set_cons_zero, List.set_cons_succ]
    refine wpAnyH_take (i := 3) (oi := ⟨some 53, _, _, _, _, _⟩) (v := .slice p2 k c2) rfl (by kernel_rfl) (by kernel_rfl) (by kernel_rfl) (fun _ _ _ h => h) (Or.inl ⟨by rfl, fun w' hw' => ?_⟩) (by assumption) ?_
    · clear hHeld
      go_simp
    try simp only [Act.put, List.setIfInBounds_toArray, List.set_cons_zero, List.set_cons_succ]
    refine wpAnyH_take (i := 5) (oi := ⟨some 55, _, _, _, _, _⟩) (v := .slice (some ⟨b1, o1, none⟩) 45 c1) rfl (by kernel_rfl) (by kernel_rfl) (by kernel_rfl) (fun _ _ _ h => h) (Or.inl ⟨by rfl, fun w' hw' => ?_⟩) (by assumption) ?_
    · clear hHeld
      go_simp
    try simp only [Act.put, List.setIfInBounds_toArray, List.set_cons_zero, List.set_cons_succ]
    refine wpAnyH_take (i := 6) (oi := ⟨some 56, _, _, _, _, _⟩) (v := .int .i64 (k : Int)) rfl (by kernel_rfl) (by kernel_rfl) (by kernel_rfl) (fun _ _ _ h => h) (Or.inl ⟨by rfl, fun w' hw' => ?_⟩) (by assumption) ?_
    · clear hHeld
      go_simp
    try simp only [Act.put, List.setIfInBounds_toArray, List.set_cons_zero, List.set_cons_succ]
    refine wpAnyH_take (i := 7) (oi := ⟨some 57, _, _, _, _, _⟩) (v := .slice (some ⟨b1, o1, none⟩) (0) (0)) rfl (by kernel_rfl) (by kernel_rfl) (by kernel_rfl) (fun _ _ _ h => h) (Or.inl ⟨by rfl, fun w' hw' => ?_⟩) (by assumption) ?_
    · clear hHeld
      go_simp
    try simp only [Act.put, List.setIfInBounds_toArray, List.set_cons_zero, List.set_cons_succ]
    refine wpAnyH_ready (rs := [0]) (by kernel_rfl) (by simp) (AllReadyH.cons rfl (fun K hK => ?_) AllReadyH.nil)
    go_simp
    have hba : Below W2.heap.size W2 (W2.alloc (.cells #[] 5)) := (Below.refl _ _).alloc (Nat.le_refl _) _
    refine hK.out _ _ (Lib.hid (HB3.out.trans (hba.mono HB3.out.size))) (fun hHeld2 => ?_)
    clear hK K hHeld
    have hHeld := hHeld2
    clear hHeld2
    try simp only [Act.put, List.setIfInBounds_toArray, List.set_cons_zero, List.set_cons_succ]
    have HOWN := Lib.hid (own_none W2)
    have HSA := Lib.hid (HSB.out.later hba)
    have HBA := Lib.hid hba
    clear hba
    refine wpAnyH_ready (rs := [4]) (by kernel_rfl) (by simp) (AllReadyH.cons rfl (fun K hK => ?_) AllReadyH.nil)
    refine step_append_vals (by decide) Tryd.underlying25 info_u8 rfl (by omega) rfl (.tmp 50) (.tmp 53) rfl (.slice (some ⟨W2.heap.size, 0, none⟩) 0 0) 0 (vL []) (by simp [Act.eval]) HOWN.out.own p2 k c2 (vL LB) (by simp [Act.eval]) (mnews HSA.out).1 (mnews HSA.out).2.1 (mnews HSA.out).2.2 (vL_one _) (by omega) ?_
    intro p4 c4 W4 g1 g2' g3
    have hb4 : Below W2.heap.size W2 W4 := g2'.below HBA.out HBA.out.size fun j hj => by cases hj; exact Nat.le_refl _
    refine hK.out _ _ (Lib.hid (HB3.out.trans (hb4.mono HB3.out.size))) (fun hHeld2 => ?_)
    clear hK K hHeld
    have hHeld := hHeld2
    clear hHeld2
    try simp only [Act.put, List.setIfInBounds_toArray, List.set_cons_zero, List.set_cons_succ]
    have HR4 := Lib.hid g1
    have HK4 : Hid (∀ j, (Value.slice p4 (0 + k) c4).ownBlock = some j → W2.heap.size ≤ j) := Lib.hid fun j hj => by
      rcases g3 j hj with h | h
      · cases h; exact Nat.le_refl _
      · first | omega | (simp at h; omega)
    have HSC := Lib.hid (HSR.out.later hb4)
    have HB4 := Lib.hid hb4
    clear g1 g2' g3 hb4 HSA HBA HOWN
    refine wpAnyH_ready (rs := [8]) (by kernel_rfl) (by simp) (AllReadyH.cons rfl (fun K hK => ?_) AllReadyH.nil)
    refine step_append_vals (by decide) Tryd.underlying25 info_u8 rfl (by omega) rfl (.tmp 54) (.tmp 57) rfl (.slice p4 (0 + k) c4) (0 + k) (vL [] ++ vL LB) (by simp [Act.eval]) HR4.out (some ⟨b1, o1, none⟩) (0) (0) (vL LA) (by simp [Act.eval]) (mnews HSC.out).1 (mnews HSC.out).2.1 (mnews HSC.out).2.2 (vL_one _) (by omega) ?_
    intro p5 c5 W5 g1 g2' g3
    have hb5 : Below W2.heap.size W2 W5 := g2'.below HB4.out HB4.out.size fun j hj => HK4.out j hj
    refine hK.out _ _ (Lib.hid (HB3.out.trans (hb5.mono HB3.out.size))) (fun hHeld2 => ?_)
    clear hK K hHeld
    have hHeld := hHeld2
    clear hHeld2
    try simp only [Act.put, List.setIfInBounds_toArray, List.set_cons_zero, List.set_cons_succ]
    have hrow : Row W5 (.slice p5 45 c5) 45 (tornM ⟨g, a, r, t, s⟩ ⟨g2, a2, r2, t2, s2⟩ k) := by
      have hlen : 0 + k + (0) = 45 := by omega
      rw [hlen] at g1
      refine ⟨tornM_len _ _ _ (by omega), tornM_lt _ _ _, ?_⟩
      have hv : vL [] ++ vL LB ++ vL LA = vL (tornM ⟨g, a, r, t, s⟩ ⟨g2, a2, r2, t2, s2⟩ k) := by rw [← vL_append, ← vL_append, List.nil_append, HTO.out]
      rw [hv] at g1
      exact g1
    have hlen : 0 + k + (0) = 45 := by omega
    refine wpAnyH_take (i := 9) (oi := ⟨some 12, _, _, _, _, _⟩) (v := .slice p5 (0 + k + (0)) c5) rfl (by kernel_rfl) (by kernel_rfl) (by kernel_rfl) (fun _ _ _ h => h) (Or.inl ⟨by rfl, fun w' hw' => ?_⟩) (by assumption) ?_
    · clear hHeld
      go_simp
    try simp only [Act.put, List.setIfInBounds_toArray, List.set_cons_zero, List.set_cons_succ]
    refine wpAnyH_done (by kernel_rfl) ?_ _
    clear hHeld
    rw [hlen]
    obtain ⟨q5, d5, he5, hm5, hs5, _⟩ := hrow.sl
    cases he5
    have HM5 := Lib.hid (block_later HM3.out hb5)
    have HO5 := Lib.hid (block_later HO3.out hb5)
    have HB5 := Lib.hid (HB3.out.trans (hb5.mono HB3.out.size))
    have HT5 := Lib.hid (HT3.out.later hb5 HT3.out.lt)
    have HD5 := Lib.hid hs5
    have HMX5 := Lib.hid hm5
    clear hrow hs5 hm5 hb5 g1 g2' g3 HR4 HK4 HSC HB4 hlen HSB HSR HM3 HO3 HB3 HT3
    go_wp2_with fail
    refine (mdec_any _ _ _ (tornM ⟨g, a, r, t, s⟩ ⟨g2, a2, r2, t2, s2⟩ k) _ HD5.out HMX5.out (by omega) HT5.out).mono ?_
    rw [HRES.out.1, HRES.out.2]
    rintro e w6 ⟨rfl, hb6⟩
    have hbn := ((Below.refl w6.heap.size w6).alloc (Nat.le_refl _) (.cells #[.int .u64 (g2 : Int), .int .u8 (a2 : Int), .int .i64 (sgn r2), .int .i64 (sgn t2), .int .i64 (sgn s2)] 24))
    have HY6 := Lib.hid (alloc_block w6 (.cells #[.int .u64 (g2 : Int), .int .u8 (a2 : Int), .int .i64 (sgn r2), .int .i64 (sgn t2), .int .i64 (sgn s2)] 24))
    have hbb := hb6.trans (hbn.mono hb6.size)
    have HM6 := Lib.hid (block_later HM5.out hbb)
    have HO6 := Lib.hid (block_later HO5.out hbb)
    have HB6 := Lib.hid (HB5.out.trans (hbb.mono HB5.out.size))
    have HT6 := Lib.hid (HT5.out.later hbb HT5.out.lt)
    clear hb6 hbn hbb HM5 HO5 HB5 HT5 HD5
    go_upto_region 10 with (fail)
    generalize w6.alloc (.cells #[.int .u64 (g2 : Int), .int .u8 (a2 : Int), .int .i64 (sgn r2), .int .i64 (sgn t2), .int .i64 (sgn s2)] 24) = W6 at *
    generalize w6.heap.size = Y6 at *
    obtain ⟨x0, x1, x2, x3, x4⟩ := mcells HM6.out
    obtain ⟨y0, y1, y2, y3, y4⟩ := mcells HY6.out
    obtain ⟨z0, z1, z2, z3, z4⟩ := mcells HO6.out
    go_wp2_with fail
    refine (works16 _ HT6.out).mono ?_
    rintro e w9 ⟨rfl, h6⟩
    have HF := Lib.hid (HB6.out.trans (h6.mono HB6.out.size))
    clear h6
    go_wp2_with fail
    go_ret
    exact ⟨rfl, HF.out⟩
  · rw [if_neg hck, Option.map_some, Go.WideShapes.add_plain] at hsr
    have HSR := Lib.hid hsr
    clear hsr
    refine wpAnyH_take (i := 1) (oi := ⟨some 51, _, _, _, _, _⟩) (v := .slice p2 45 c2) rfl (by kernel_rfl) (by kernel_rfl) (by kernel_rfl) (fun _ _ _ h => h) (Or.inl ⟨by rfl, fun w' hw' => ?_⟩) (by assumption) ?_
    · clear hHeld
      go_simp
    try simp only [Act.put, List.setIfInBounds_toArray, List.set_cons_zero, List.set_cons_succ]
    refine wpAnyH_take (i := 2) (oi := ⟨some 52, _, _, _, _, _⟩) (v := .int .i64 (k : Int)) rfl (by kernel_rfl) (by kernel_rfl) (by kernel_rfl) (fun _ _ _ h => h) (Or.inl ⟨by rfl, fun w' hw' => ?_⟩) (by assumption) ?_
    · clear hHeld
      go_simp
    try simp only [Act.put, List.setIfInBounds_toArray, List.set_cons_zero, List.set_cons_succ]
    refine wpAnyH_take (i := 3) (oi := ⟨some 53, _, _, _, _, _⟩) (v := .slice p2 k c2) rfl (by kernel_rfl) (by kernel_rfl) (by kernel_rfl) (fun _ _ _ h => h) (Or.inl ⟨by rfl, fun w' hw' => ?_⟩) (by assumption) ?_
    · clear hHeld
      go_simp
    try simp only [Act.put, List.setIfInBounds_toArray, List.set_cons_zero, List.set_cons_succ]
    refine wpAnyH_take (i := 5) (oi := ⟨some 55, _, _, _, _, _⟩) (v := .slice (some ⟨b1, o1, none⟩) 45 c1) rfl (by kernel_rfl) (by kernel_rfl) (by kernel_rfl) (fun _ _ _ h => h) (Or.inl ⟨by rfl, fun w' hw' => ?_⟩) (by assumption) ?_
    · clear hHeld
      go_simp
    try simp only [Act.put, List.setIfInBounds_toArray, List.set_cons_zero, List.set_cons_succ]
    refine wpAnyH_take (i := 6) (oi := ⟨some 56, _, _, _, _, _⟩) (v := .int .i64 (k : Int)) rfl (by kernel_rfl) (by kernel_rfl) (by kernel_rfl) (fun _ _ _ h => h) (Or.inl ⟨by rfl, fun w' hw' => ?_⟩) (by assumption) ?_
    · clear hHeld
      go_simp
    try simp only [Act.put, List.setIfInBounds_toArray, List.set_cons_zero, List.set_cons_succ]
    refine wpAnyH_take (i := 7) (oi := ⟨some 57, _, _, _, _, _⟩) (v := .slice (some ⟨b1, o1 + k, none⟩) (45 - k) (c1 - k)) rfl (by kernel_rfl) (by kernel_rfl) (by kernel_rfl) (fun _ _ _ h => h) (Or.inl ⟨by rfl, fun w' hw' => ?_⟩) (by assumption) ?_
    · clear hHeld
      go_simp
    try simp only [Act.put, List.setIfInBounds_toArray, List.set_cons_zero, List.set_cons_succ]
    refine wpAnyH_ready (rs := [0]) (by kernel_rfl) (by simp) (AllReadyH.cons rfl (fun K hK => ?_) AllReadyH.nil)
    go_simp
    have hba : Below W2.heap.size W2 (W2.alloc (.cells #[] 5)) := (Below.refl _ _).alloc (Nat.le_refl _) _
    refine hK.out _ _ (Lib.hid (HB3.out.trans (hba.mono HB3.out.size))) (fun hHeld2 => ?_)
    clear hK K hHeld
    have hHeld := hHeld2
    clear hHeld2
    try simp only [Act.put, List.setIfInBounds_toArray, List.set_cons_zero, List.set_cons_succ]
    have HOWN := Lib.hid (own_none W2)
    have HSA := Lib.hid (HSB.out.later hba)
    have HBA := Lib.hid hba
    clear hba
    refine wpAnyH_ready (rs := [4]) (by kernel_rfl) (by simp) (AllReadyH.cons rfl (fun K hK => ?_) AllReadyH.nil)
    refine step_append_vals (by decide) Tryd.underlying25 info_u8 rfl (by omega) rfl (.tmp 50) (.tmp 53) rfl (.slice (some ⟨W2.heap.size, 0, none⟩) 0 0) 0 (vL []) (by simp [Act.eval]) HOWN.out.own p2 k c2 (vL LB) (by simp [Act.eval]) (mnews HSA.out).1 (mnews HSA.out).2.1 (mnews HSA.out).2.2 (vL_one _) (by omega) ?_
    intro p4 c4 W4 g1 g2' g3
    have hb4 : Below W2.heap.size W2 W4 := g2'.below HBA.out HBA.out.size fun j hj => by cases hj; exact Nat.le_refl _
    refine hK.out _ _ (Lib.hid (HB3.out.trans (hb4.mono HB3.out.size))) (fun hHeld2 => ?_)
    clear hK K hHeld
    have hHeld := hHeld2
    clear hHeld2
    try simp only [Act.put, List.setIfInBounds_toArray, List.set_cons_zero, List.set_cons_succ]
    have HR4 := Lib.hid g1
    have HK4 : Hid (∀ j, (Value.slice p4 (0 + k) c4).ownBlock = some j → W2.heap.size ≤ j) := Lib.hid fun j hj => by
      rcases g3 j hj with h | h
      · cases h; exact Nat.le_refl _
      · first | omega | (simp at h; omega)
    have HSC := Lib.hid (HSR.out.later hb4)
    have HB4 := Lib.hid hb4
    clear g1 g2' g3 hb4 HSA HBA HOWN
    refine wpAnyH_ready (rs := [8]) (by kernel_rfl) (by simp) (AllReadyH.cons rfl (fun K hK => ?_) AllReadyH.nil)
    refine step_append_vals (by decide) Tryd.underlying25 info_u8 rfl (by omega) rfl (.tmp 54) (.tmp 57) rfl (.slice p4 (0 + k) c4) (0 + k) (vL [] ++ vL LB) (by simp [Act.eval]) HR4.out (some ⟨b1, o1 + k, none⟩) (45 - k) (c1 - k) (vL LA) (by simp [Act.eval]) (mnews HSC.out).1 (mnews HSC.out).2.1 (mnews HSC.out).2.2 (vL_one _) (by omega) ?_
    intro p5 c5 W5 g1 g2' g3
    have hb5 : Below W2.heap.size W2 W5 := g2'.below HB4.out HB4.out.size fun j hj => HK4.out j hj
    refine hK.out _ _ (Lib.hid (HB3.out.trans (hb5.mono HB3.out.size))) (fun hHeld2 => ?_)
    clear hK K hHeld
    have hHeld := hHeld2
    clear hHeld2
    try simp only [Act.put, List.setIfInBounds_toArray, List.set_cons_zero, List.set_cons_succ]
    have hrow : Row W5 (.slice p5 45 c5) 45 (tornM ⟨g, a, r, t, s⟩ ⟨g2, a2, r2, t2, s2⟩ k) := by
      have hlen : 0 + k + (45 - k) = 45 := by omega
      rw [hlen] at g1
      refine ⟨tornM_len _ _ _ (by omega), tornM_lt _ _ _, ?_⟩
      have hv : vL [] ++ vL LB ++ vL LA = vL (tornM ⟨g, a, r, t, s⟩ ⟨g2, a2, r2, t2, s2⟩ k) := by rw [← vL_append, ← vL_append, List.nil_append, HTO.out]
      rw [hv] at g1
      exact g1
    have hlen : 0 + k + (45 - k) = 45 := by omega
    refine wpAnyH_take (i := 9) (oi := ⟨some 12, _, _, _, _, _⟩) (v := .slice p5 (0 + k + (45 - k)) c5) rfl (by kernel_rfl) (by kernel_rfl) (by kernel_rfl) (fun _ _ _ h => h) (Or.inl ⟨by rfl, fun w' hw' => ?_⟩) (by assumption) ?_
    · clear hHeld
      go_simp
    try simp only [Act.put, List.setIfInBounds_toArray, List.set_cons_zero, List.set_cons_succ]
    refine wpAnyH_done (by kernel_rfl) ?_ _
    clear hHeld
    rw [hlen]
    obtain ⟨q5, d5, he5, hm5, hs5, _⟩ := hrow.sl
    cases he5
    have HM5 := Lib.hid (block_later HM3.out hb5)
    have HO5 := Lib.hid (block_later HO3.out hb5)
    have HB5 := Lib.hid (HB3.out.trans (hb5.mono HB3.out.size))
    have HT5 := Lib.hid (HT3.out.later hb5 HT3.out.lt)
    have HD5 := Lib.hid hs5
    have HMX5 := Lib.hid hm5
    clear hrow hs5 hm5 hb5 g1 g2' g3 HR4 HK4 HSC HB4 hlen HSB HSR HM3 HO3 HB3 HT3
    go_wp2_with fail
    refine (mdec_any _ _ _ (tornM ⟨g, a, r, t, s⟩ ⟨g2, a2, r2, t2, s2⟩ k) _ HD5.out HMX5.out (by omega) HT5.out).mono ?_
    rw [HRES.out.1, HRES.out.2]
    rintro e w6 ⟨rfl, hb6⟩
    have hbn := ((Below.refl w6.heap.size w6).alloc (Nat.le_refl _) (.cells #[.int .u64 (g2 : Int), .int .u8 (a2 : Int), .int .i64 (sgn r2), .int .i64 (sgn t2), .int .i64 (sgn s2)] 24))
    have HY6 := Lib.hid (alloc_block w6 (.cells #[.int .u64 (g2 : Int), .int .u8 (a2 : Int), .int .i64 (sgn r2), .int .i64 (sgn t2), .int .i64 (sgn s2)] 24))
    have hbb := hb6.trans (hbn.mono hb6.size)
    have HM6 := Lib.hid (block_later HM5.out hbb)
    have HO6 := Lib.hid (block_later HO5.out hbb)
    have HB6 := Lib.hid (HB5.out.trans (hbb.mono HB5.out.size))
    have HT6 := Lib.hid (HT5.out.later hbb HT5.out.lt)
    clear hb6 hbn hbb HM5 HO5 HB5 HT5 HD5
    go_upto_region 10 with (fail)
    generalize w6.alloc (.cells #[.int .u64 (g2 : Int), .int .u8 (a2 : Int), .int .i64 (sgn r2), .int .i64 (sgn t2), .int .i64 (sgn s2)] 24) = W6 at *
    generalize w6.heap.size = Y6 at *
    obtain ⟨x0, x1, x2, x3, x4⟩ := mcells HM6.out
    obtain ⟨y0, y1, y2, y3, y4⟩ := mcells HY6.out
    obtain ⟨z0, z1, z2, z3, z4⟩ := mcells HO6.out
    go_wp2_with fail
    refine (works16 _ HT6.out).mono ?_
    rintro e w9 ⟨rfl, h6⟩
    have HF := Lib.hid (HB6.out.trans (h6.mono HB6.out.size))
    clear h6
    go_wp2_with fail
    go_ret
    exact ⟨rfl, HF.out⟩
set_option maxHeartbeats 2000000 in
theorem mtorn_old (g a r t s g2 a2 r2 t2 s2 n k : Nat) (hm : Mv.ok ⟨g, a, r, t, s⟩) (ho : Mv.ok ⟨g2, a2, r2, t2, s2⟩) (hn : n < 256) (hnk : n % 46 = k) (w : World) (hT : Tab w) (hgood : goodM ⟨g, a, r, t, s⟩ = true) (hgo : goodM ⟨g2, a2, r2, t2, s2⟩ = true) (hg : g ≠ g2) (h0 : 0 < k) (h45 : k < 45) (hres : dE (tornM ⟨g, a, r, t, s⟩ ⟨g2, a2, r2, t2, s2⟩ k) = 0 ∧ dV (tornM ⟨g, a, r, t, s⟩ ⟨g2, a2, r2, t2, s2⟩ k) = ⟨g, a, r, t, s⟩) :
    Calls Tryd.prog 6 #[.agg #[.int .u64 (g : Int), .int .u8 (a : Int), .int .i64 (sgn r), .int .i64 (sgn t), .int .i64 (sgn s)], .agg #[.int .u64 (g2 : Int), .int .u8 (a2 : Int), .int .i64 (sgn r2), .int .i64 (sgn t2), .int .i64 (sgn s2)], .int .u8 (n : Int)] w fun e w' => e = .returned (.bool true) ∧ Below w.heap.size w w' := by
  have henc : ∀ w', Tab w' → Calls Tryd.prog 7 #[.agg #[.int .u64 (g : Int), .int .u8 (a : Int), .int .i64 (sgn r), .int .i64 (sgn t), .int .i64 (sgn s)]] w' (GivesE w' (encL ⟨g, a, r, t, s⟩) (encE ⟨g, a, r, t, s⟩)) := fun w' hT' => menc_any ⟨g, a, r, t, s⟩ hm w' hT'
  have heno : ∀ w', Tab w' → Calls Tryd.prog 7 #[.agg #[.int .u64 (g2 : Int), .int .u8 (a2 : Int), .int .i64 (sgn r2), .int .i64 (sgn t2), .int .i64 (sgn s2)]] w' (GivesE w' (encL ⟨g2, a2, r2, t2, s2⟩) (encE ⟨g2, a2, r2, t2, s2⟩)) := fun w' hT' => menc_any ⟨g2, a2, r2, t2, s2⟩ ho w' hT'
  obtain ⟨hb0, hxo⟩ := mtwo w #[.int .u64 (g : Int), .int .u8 (a : Int), .int .i64 (sgn r), .int .i64 (sgn t), .int .i64 (sgn s)] #[.int .u64 (g2 : Int), .int .u8 (a2 : Int), .int .i64 (sgn r2), .int .i64 (sgn t2), .int .i64 (sgn s2)] 24 24
  have hxm := block_later (alloc_block w (.cells #[.int .u64 (g : Int), .int .u8 (a : Int), .int .i64 (sgn r), .int .i64 (sgn t), .int .i64 (sgn s)] 24)) ((Below.refl _ _).alloc (Nat.le_refl _) (.cells #[.int .u64 (g2 : Int), .int .u8 (a2 : Int), .int .i64 (sgn r2), .int .i64 (sgn t2), .int .i64 (sgn s2)] 24))
  have HB0 := Lib.hid hb0
  have HT0 := Lib.hid (hT.later hb0 hT.lt)
  have HO0 := Lib.hid hxo
  have HM0 := Lib.hid hxm
  obtain ⟨X, hX⟩ : ∃ X, w.heap.size = X := ⟨_, rfl⟩
  rw [hX] at HO0 HM0
  have HENC := Lib.hid henc
  have HENO := Lib.hid heno
  have HMO := Lib.hid (show Mv.ok ⟨g, a, r, t, s⟩ ∧ Mv.ok ⟨g2, a2, r2, t2, s2⟩ from ⟨hm, ho⟩)
  clear hb0 hxo hxm hT henc heno hm ho
  obtain ⟨x0, x1, x2, x3, x4⟩ := mcells HM0.out
  obtain ⟨z0, z1, z2, z3, z4⟩ := mcells HO0.out
  have HEN := Lib.hid (encL_good hgood)
  have HEO := Lib.hid (encL_good hgo)
  have hk1 : ((k : Int) == 0) = false := by simp; omega
  have hk2 : ((k : Int) == 45) = false := by simp; omega
  have hk3 : (k == 0) = false := by simp; omega
  have hk4 : (k == 45) = false := by simp; omega
  have HRES := Lib.hid hres
  clear hres
  have hg1 : ((g : Int) == (g2 : Int)) = false := by simpa using fun h => hg (by exact_mod_cast h)
  have hg2 : ((g2 : Int) == (g : Int)) = false := by simpa using fun h => hg (by exact_mod_cast h.symm)
  have hg3 : (g == g2) = false := by simpa using hg
  have hg4 : (g2 == g) = false := by simpa using fun h => hg h.symm
  clear hgood hgo hg
  go_enter Tryd.func6, Tryd.ntmps6
  go_wp2_with fail
  refine (HENC.out _ HT0.out).mono ?_
  rw [HEN.out.1, HEN.out.2]
  rintro e w1 ⟨p1, c1, rfl, hs1, hb1, _, hm1⟩
  have HM1 := Lib.hid (block_later HM0.out hb1)
  have HO1 := Lib.hid (block_later HO0.out hb1)
  have HB1 := Lib.hid (HB0.out.trans (hb1.mono HB0.out.size))
  have HT1 := Lib.hid (HT0.out.later hb1 HT0.out.lt)
  have HS1 := Lib.hid hs1
  have HMX := Lib.hid hm1
  clear hb1 hs1 hm1 HM0 HO0 HB0 HT0 x0 x1 x2 x3 x4 z0 z1 z2 z3 z4 hX
  have HL1 := Lib.hid (bytesM_len ⟨g, a, r, t, s⟩)
  rw [HL1.out] at HS1 ⊢
  obtain ⟨x0, x1, x2, x3, x4⟩ := mcells HM1.out
  obtain ⟨z0, z1, z2, z3, z4⟩ := mcells HO1.out
  go_wp2_with fail
  clear x0 x1 x2 x3 x4 z0 z1 z2 z3 z4
  refine (HENO.out _ HT1.out).mono ?_
  rw [HEO.out.1, HEO.out.2]
  rintro e w2 ⟨p2, c2, rfl, hs2, hb2, _, hm2⟩
  have HM2 := Lib.hid (block_later HM1.out hb2)
  have HO2 := Lib.hid (block_later HO1.out hb2)
  have HB2 := Lib.hid (HB1.out.trans (hb2.mono HB1.out.size))
  have HT2 := Lib.hid (HT1.out.later hb2 HT1.out.lt)
  have HS12 := Lib.hid (HS1.out.later hb2)
  have HS2 := Lib.hid hs2
  have HMX2 := Lib.hid hm2
  clear hb2 hs2 hm2 HM1 HO1 HB1 HT1 HS1
  have HL2 := Lib.hid (bytesM_len ⟨g2, a2, r2, t2, s2⟩)
  rw [HL2.out] at HS2 ⊢
  obtain ⟨x0, x1, x2, x3, x4⟩ := mcells HM2.out
  obtain ⟨z0, z1, z2, z3, z4⟩ := mcells HO2.out
  have hk45 : k ≤ 45 := by omega
  have hm1 : (n : Int) % 46 = (k : Int) := by omega
  have hm2 : (n : Int).tmod 46 = (k : Int) := by rw [Int.tmod_eq_emod_of_nonneg (by omega)]; omega
  have hca := HS12.out.cap
  have hcb := HS2.out.cap
  have hcm1 : c1 ≤ 9223372036854775807 := HMX.out
  have hcm2 : c2 ≤ 9223372036854775807 := HMX2.out
  obtain ⟨b1, o1, rfl, _, _⟩ := HS12.out.blk (by omega)
  go_upto_region 8 with (fail)
  clear x0 x1 x2 x3 x4 z0 z1 z2 z3 z4
  have e1 : (k : Int) ≤ 45 := by omega
  have e2 : (k : Int) ≤ (c1 : Int) := by omega
  have e3 : (k : Int) ≤ (c2 : Int) := by omega
  have hbd : Below w.heap.size w w2.drew := below_drewN HB2.out 1
  refine wp_region_held_drew (S := fun w' => Hid (Below w.heap.size w w')) (by kernel_rfl) (Lib.hid hbd) (fun hHeld => ?_)
  have HB3 := Lib.hid hbd
  have HM3 := Lib.hid (show w2.drew.heap[X]? = _ from HM2.out)
  have HO3 := Lib.hid (show w2.drew.heap[X + 1]? = _ from HO2.out)
  have HT3 := Lib.hid (HT2.out.later (Below.refl w2.heap.size w2).drew HT2.out.lt)
  have HSB := Lib.hid ((HS2.out.later (Below.refl w2.heap.size w2).drew).take k hk45)
  have hsr := (HS12.out.later (Below.refl w2.heap.size w2).drew).drop k hk45
  generalize hLB : (bytesM ⟨g2, a2, r2, t2, s2⟩).take k = LB at *
  generalize hLA : (bytesM ⟨g, a, r, t, s⟩).drop k = LA at *
  have HTO : Hid (LB ++ LA = tornM ⟨g, a, r, t, s⟩ ⟨g2, a2, r2, t2, s2⟩ k) := Lib.hid (by rw [← hLA, ← hLB]; rfl)
  clear hbd hLB hLA HM2 HO2 HB2 HT2
  generalize w2.drew = W2 at *
  have hck : ¬ c1 = k := by omega
  rw [if_neg hck, Option.map_some, Go.WideShapes.add_plain] at hsr
  have HSR := Lib.hid hsr
  clear hsr
  refine wpAnyH_take (i := 1) (oi := ⟨some 51, _, _, _, _, _⟩) (v := .slice p2 45 c2) rfl (by kernel_rfl) (by kernel_rfl) (by kernel_rfl) (fun _ _ _ h => h) (Or.inl ⟨by rfl, fun w' hw' => ?_⟩) (by assumption) ?_
  · clear hHeld
    go_simp
  try simp only [Act.put, List.setIfInBounds_toArray, List.set_cons_zero, List.set_cons_succ]
  refine wpAnyH_take (i := 2) (oi := ⟨some 52, _, _, _, _, _⟩) (v := .int .i64 (k : Int)) rfl (by kernel_rfl) (by kernel_rfl) (by kernel_rfl) (fun _ _ _ h => h) (Or.inl ⟨by rfl, fun w' hw' => ?_⟩) (by assumption) ?_
  · clear hHeld
    go_simp
  try simp only [Act.put, List.setIfInBounds_toArray, List.set_cons_zero, List.set_cons_succ]
  refine wpAnyH_take (i := 3) (oi := ⟨some 53, _, _, _, _, _⟩) (v := .slice p2 k c2) rfl (by kernel_rfl) (by kernel_rfl) (by kernel_rfl) (fun _ _ _ h => h) (Or.inl ⟨by rfl, fun w' hw' => ?_⟩) (by assumption) ?_
  · clear hHeld
    go_simp
  try simp only [Act.put, List.setIfInBounds_toArray, List.set_cons_zero, List.set_cons_succ]
  refine wpAnyH_take (i := 5) (oi := ⟨some 55, _, _, _, _, _⟩) (v := .slice (some ⟨b1, o1, none⟩) 45 c1) rfl (by kernel_rfl) (by kernel_rfl) (by kernel_rfl) (fun _ _ _ h => h) (Or.inl ⟨by rfl, fun w' hw' => ?_⟩) (by assumption) ?_
  · clear hHeld
    go_simp
  try simp only [Act.put, List.setIfInBounds_toArray, List.set_cons_zero, List.set_cons_succ]
  refine wpAnyH_take (i := 6) (oi := ⟨some 56, _, _, _, _, _⟩) (v := .int .i64 (k : Int)) rfl (by kernel_rfl) (by kernel_rfl) (by kernel_rfl) (fun _ _ _ h => h) (Or.inl ⟨by rfl, fun w' hw' => ?_⟩) (by assumption) ?_
  · clear hHeld
    go_simp
  try simp only [Act.put, List.setIfInBounds_toArray, List.set_cons_zero, List.set_cons_succ]
  refine wpAnyH_take (i := 7) (oi := ⟨some 57, _, _, _, _, _⟩) (v := .slice (some ⟨b1, o1 + k, none⟩) (45 - k) (c1 - k)) rfl (by kernel_rfl) (by kernel_rfl) (by kernel_rfl) (fun _ _ _ h => h) (Or.inl ⟨by rfl, fun w' hw' => ?_⟩) (by assumption) ?_
  · clear hHeld
    go_simp
  try simp only [Act.put, List.setIfInBounds_toArray, List.set_cons_zero, List.set_cons_succ]
  refine wpAnyH_ready (rs := [0]) (by kernel_rfl) (by simp) (AllReadyH.cons rfl (fun K hK => ?_) AllReadyH.nil)
  go_simp
  have hba : Below W2.heap.size W2 (W2.alloc (.cells #[] 5)) := (Below.refl _ _).alloc (Nat.le_refl _) _
  refine hK.out _ _ (Lib.hid (HB3.out.trans (hba.mono HB3.out.size))) (fun hHeld2 => ?_)
  clear hK K hHeld
  have hHeld := hHeld2
  clear hHeld2
  try simp only [Act.put, List.setIfInBounds_toArray, List.set_cons_zero, List.set_cons_succ]
  have HOWN := Lib.hid (own_none W2)
  have HSA := Lib.hid (HSB.out.later hba)
  have HBA := Lib.hid hba
  clear hba
  refine wpAnyH_ready (rs := [4]) (by kernel_rfl) (by simp) (AllReadyH.cons rfl (fun K hK => ?_) AllReadyH.nil)
  refine step_append_vals (by decide) Tryd.underlying25 info_u8 rfl (by omega) rfl (.tmp 50) (.tmp 53) rfl (.slice (some ⟨W2.heap.size, 0, none⟩) 0 0) 0 (vL []) (by simp [Act.eval]) HOWN.out.own p2 k c2 (vL LB) (by simp [Act.eval]) (mnews HSA.out).1 (mnews HSA.out).2.1 (mnews HSA.out).2.2 (vL_one _) (by omega) ?_
  intro p4 c4 W4 g1 g2' g3
  have hb4 : Below W2.heap.size W2 W4 := g2'.below HBA.out HBA.out.size fun j hj => by cases hj; exact Nat.le_refl _
  refine hK.out _ _ (Lib.hid (HB3.out.trans (hb4.mono HB3.out.size))) (fun hHeld2 => ?_)
  clear hK K hHeld
  have hHeld := hHeld2
  clear hHeld2
  try simp only [Act.put, List.setIfInBounds_toArray, List.set_cons_zero, List.set_cons_succ]
  have HR4 := Lib.hid g1
  have HK4 : Hid (∀ j, (Value.slice p4 (0 + k) c4).ownBlock = some j → W2.heap.size ≤ j) := Lib.hid fun j hj => by
    rcases g3 j hj with h | h
    · cases h; exact Nat.le_refl _
    · first | omega | (simp at h; omega)
  have HSC := Lib.hid (HSR.out.later hb4)
  have HB4 := Lib.hid hb4
  clear g1 g2' g3 hb4 HSA HBA HOWN
  refine wpAnyH_ready (rs := [8]) (by kernel_rfl) (by simp) (AllReadyH.cons rfl (fun K hK => ?_) AllReadyH.nil)
  refine step_append_vals (by decide) Tryd.underlying25 info_u8 rfl (by omega) rfl (.tmp 54) (.tmp 57) rfl (.slice p4 (0 + k) c4) (0 + k) (vL [] ++ vL LB) (by simp [Act.eval]) HR4.out (some ⟨b1, o1 + k, none⟩) (45 - k) (c1 - k) (vL LA) (by simp [Act.eval]) (mnews HSC.out).1 (mnews HSC.out).2.1 (mnews HSC.out).2.2 (vL_one _) (by omega) ?_
  intro p5 c5 W5 g1 g2' g3
  have hb5 : Below W2.heap.size W2 W5 := g2'.below HB4.out HB4.out.size fun j hj => HK4.out j hj
  refine hK.out _ _ (Lib.hid (HB3.out.trans (hb5.mono HB3.out.size))) (fun hHeld2 => ?_)
  clear hK K hHeld
  have hHeld := hHeld2
  clear hHeld2
  try simp only [Act.put, List.setIfInBounds_toArray, List.set_cons_zero, List.set_cons_succ]
  have hrow : Row W5 (.slice p5 45 c5) 45 (tornM ⟨g, a, r, t, s⟩ ⟨g2, a2, r2, t2, s2⟩ k) := by
    have hlen : 0 + k + (45 - k) = 45 := by omega
    rw [hlen] at g1
    refine ⟨tornM_len _ _ _ (by omega), tornM_lt _ _ _, ?_⟩
    have hv : vL [] ++ vL LB ++ vL LA = vL (tornM ⟨g, a, r, t, s⟩ ⟨g2, a2, r2, t2, s2⟩ k) := by rw [← vL_append, ← vL_append, List.nil_append, HTO.out]
    rw [hv] at g1
    exact g1
  have hlen : 0 + k + (45 - k) = 45 := by omega
  refine wpAnyH_take (i := 9) (oi := ⟨some 12, _, _, _, _, _⟩) (v := .slice p5 (0 + k + (45 - k)) c5) rfl (by kernel_rfl) (by kernel_rfl) (by kernel_rfl) (fun _ _ _ h => h) (Or.inl ⟨by rfl, fun w' hw' => ?_⟩) (by assumption) ?_
  · clear hHeld
    go_simp
  try simp only [Act.put, List.setIfInBounds_toArray, List.set_cons_zero, List.set_cons_succ]
  refine wpAnyH_done (by kernel_rfl) ?_ _
  clear hHeld
  rw [hlen]
  obtain ⟨q5, d5, he5, hm5, hs5, _⟩ := hrow.sl
  cases he5
  have HM5 := Lib.hid (block_later HM3.out hb5)
  have HO5 := Lib.hid (block_later HO3.out hb5)
  have HB5 := Lib.hid (HB3.out.trans (hb5.mono HB3.out.size))
  have HT5 := Lib.hid (HT3.out.later hb5 HT3.out.lt)
  have HD5 := Lib.hid hs5
  have HMX5 := Lib.hid hm5
  clear hrow hs5 hm5 hb5 g1 g2' g3 HR4 HK4 HSC HB4 hlen HSB HSR HM3 HO3 HB3 HT3
  go_wp2_with fail
  refine (mdec_any _ _ _ (tornM ⟨g, a, r, t, s⟩ ⟨g2, a2, r2, t2, s2⟩ k) _ HD5.out HMX5.out (by omega) HT5.out).mono ?_
  rw [HRES.out.1, HRES.out.2]
  rintro e w6 ⟨rfl, hb6⟩
  have hbn := ((Below.refl w6.heap.size w6).alloc (Nat.le_refl _) (.cells #[.int .u64 (g : Int), .int .u8 (a : Int), .int .i64 (sgn r), .int .i64 (sgn t), .int .i64 (sgn s)] 24))
  have HY6 := Lib.hid (alloc_block w6 (.cells #[.int .u64 (g : Int), .int .u8 (a : Int), .int .i64 (sgn r), .int .i64 (sgn t), .int .i64 (sgn s)] 24))
  have hbb := hb6.trans (hbn.mono hb6.size)
  have HM6 := Lib.hid (block_later HM5.out hbb)
  have HO6 := Lib.hid (block_later HO5.out hbb)
  have HB6 := Lib.hid (HB5.out.trans (hbb.mono HB5.out.size))
  have HT6 := Lib.hid (HT5.out.later hbb HT5.out.lt)
  clear hb6 hbn hbb HM5 HO5 HB5 HT5 HD5
  go_upto_region 10 with (fail)
  generalize w6.alloc (.cells #[.int .u64 (g : Int), .int .u8 (a : Int), .int .i64 (sgn r), .int .i64 (sgn t), .int .i64 (sgn s)] 24) = W6 at *
  generalize w6.heap.size = Y6 at *
  obtain ⟨x0, x1, x2, x3, x4⟩ := mcells HM6.out
  obtain ⟨y0, y1, y2, y3, y4⟩ := mcells HY6.out
  obtain ⟨z0, z1, z2, z3, z4⟩ := mcells HO6.out
  go_wp2_with fail
  refine (works16 _ HT6.out).mono ?_
  rintro e w9 ⟨rfl, h6⟩
  have HF := Lib.hid (HB6.out.trans (h6.mono HB6.out.size))
  clear h6
  go_wp2_with fail
  go_ret
  exact ⟨rfl, HF.out⟩
set_option maxHeartbeats 2000000 in
theorem mtorn_now (g a r t s g2 a2 r2 t2 s2 n k : Nat) (hm : Mv.ok ⟨g, a, r, t, s⟩) (ho : Mv.ok ⟨g2, a2, r2, t2, s2⟩) (hn : n < 256) (hnk : n % 46 = k) (w : World) (hT : Tab w) (hgood : goodM ⟨g, a, r, t, s⟩ = true) (hgo : goodM ⟨g2, a2, r2, t2, s2⟩ = true) (hg : g ≠ g2) (h0 : 0 < k) (h45 : k < 45) (hres : dE (tornM ⟨g, a, r, t, s⟩ ⟨g2, a2, r2, t2, s2⟩ k) = 0 ∧ dV (tornM ⟨g, a, r, t, s⟩ ⟨g2, a2, r2, t2, s2⟩ k) = ⟨g2, a2, r2, t2, s2⟩) :
    Calls Tryd.prog 6 #[.agg #[.int .u64 (g : Int), .int .u8 (a : Int), .int .i64 (sgn r), .int .i64 (sgn t), .int .i64 (sgn s)], .agg #[.int .u64 (g2 : Int), .int .u8 (a2 : Int), .int .i64 (sgn r2), .int .i64 (sgn t2), .int .i64 (sgn s2)], .int .u8 (n : Int)] w fun e w' => e = .returned (.bool true) ∧ Below w.heap.size w w' := by
  have henc : ∀ w', Tab w' → Calls Tryd.prog 7 #[.agg #[.int .u64 (g : Int), .int .u8 (a : Int), .int .i64 (sgn r), .int .i64 (sgn t), .int .i64 (sgn s)]] w' (GivesE w' (encL ⟨g, a, r, t, s⟩) (encE ⟨g, a, r, t, s⟩)) := fun w' hT' => menc_any ⟨g, a, r, t, s⟩ hm w' hT'
  have heno : ∀ w', Tab w' → Calls Tryd.prog 7 #[.agg #[.int .u64 (g2 : Int), .int .u8 (a2 : Int), .int .i64 (sgn r2), .int .i64 (sgn t2), .int .i64 (sgn s2)]] w' (GivesE w' (encL ⟨g2, a2, r2, t2, s2⟩) (encE ⟨g2, a2, r2, t2, s2⟩)) := fun w' hT' => menc_any ⟨g2, a2, r2, t2, s2⟩ ho w' hT'
  obtain ⟨hb0, hxo⟩ := mtwo w #[.int .u64 (g : Int), .int .u8 (a : Int), .int .i64 (sgn r), .int .i64 (sgn t), .int .i64 (sgn s)] #[.int .u64 (g2 : Int), .int .u8 (a2 : Int), .int .i64 (sgn r2), .int .i64 (sgn t2), .int .i64 (sgn s2)] 24 24
  have hxm := block_later (alloc_block w (.cells #[.int .u64 (g : Int), .int .u8 (a : Int), .int .i64 (sgn r), .int .i64 (sgn t), .int .i64 (sgn s)] 24)) ((Below.refl _ _).alloc (Nat.le_refl _) (.cells #[.int .u64 (g2 : Int), .int .u8 (a2 : Int), .int .i64 (sgn r2), .int .i64 (sgn t2), .int .i64 (sgn s2)] 24))
  have HB0 := Lib.hid hb0
  have HT0 := Lib.hid (hT.later hb0 hT.lt)
  have HO0 := Lib.hid hxo
  have HM0 := Lib.hid hxm
  obtain ⟨X, hX⟩ : ∃ X, w.heap.size = X := ⟨_, rfl⟩
  rw [hX] at HO0 HM0
  have HENC := Lib.hid henc
  have HENO := Lib.hid heno
  have HMO := Lib.hid (show Mv.ok ⟨g, a, r, t, s⟩ ∧ Mv.ok ⟨g2, a2, r2, t2, s2⟩ from ⟨hm, ho⟩)
  clear hb0 hxo hxm hT henc heno hm ho
  obtain ⟨x0, x1, x2, x3, x4⟩ := mcells HM0.out
  obtain ⟨z0, z1, z2, z3, z4⟩ := mcells HO0.out
  have HEN := Lib.hid (encL_good hgood)
  have HEO := Lib.hid (encL_good hgo)
  have hk1 : ((k : Int) == 0) = false := by simp; omega
  have hk2 : ((k : Int) == 45) = false := by simp; omega
  have hk3 : (k == 0) = false := by simp; omega
  have hk4 : (k == 45) = false := by simp; omega
  have HRES := Lib.hid hres
  clear hres
  have hg1 : ((g : Int) == (g2 : Int)) = false := by simpa using fun h => hg (by exact_mod_cast h)
  have hg2 : ((g2 : Int) == (g : Int)) = false := by simpa using fun h => hg (by exact_mod_cast h.symm)
  have hg3 : (g == g2) = false := by simpa using hg
  have hg4 : (g2 == g) = false := by simpa using fun h => hg h.symm
  clear hgood hgo hg
  go_enter Tryd.func6, Tryd.ntmps6
  go_wp2_with fail
  refine (HENC.out _ HT0.out).mono ?_
  rw [HEN.out.1, HEN.out.2]
  rintro e w1 ⟨p1, c1, rfl, hs1, hb1, _, hm1⟩
  have HM1 := Lib.hid (block_later HM0.out hb1)
  have HO1 := Lib.hid (block_later HO0.out hb1)
  have HB1 := Lib.hid (HB0.out.trans (hb1.mono HB0.out.size))
  have HT1 := Lib.hid (HT0.out.later hb1 HT0.out.lt)
  have HS1 := Lib.hid hs1
  have HMX := Lib.hid hm1
  clear hb1 hs1 hm1 HM0 HO0 HB0 HT0 x0 x1 x2 x3 x4 z0 z1 z2 z3 z4 hX
  have HL1 := Lib.hid (bytesM_len ⟨g, a, r, t, s⟩)
  rw [HL1.out] at HS1 ⊢
  obtain ⟨x0, x1, x2, x3, x4⟩ := mcells HM1.out
  obtain ⟨z0, z1, z2, z3, z4⟩ := mcells HO1.out
  go_wp2_with fail
  clear x0 x1 x2 x3 x4 z0 z1 z2 z3 z4
  refine (HENO.out _ HT1.out).mono ?_
  rw [HEO.out.1, HEO.out.2]
  rintro e w2 ⟨p2, c2, rfl, hs2, hb2, _, hm2⟩
  have HM2 := Lib.hid (block_later HM1.out hb2)
  have HO2 := Lib.hid (block_later HO1.out hb2)
  have HB2 := Lib.hid (HB1.out.trans (hb2.mono HB1.out.size))
  have HT2 := Lib.hid (HT1.out.later hb2 HT1.out.lt)
  have HS12 := Lib.hid (HS1.out.later hb2)
  have HS2 := Lib.hid hs2
  have HMX2 := Lib.hid hm2
  clear hb2 hs2 hm2 HM1 HO1 HB1 HT1 HS1
  have HL2 := Lib.hid (bytesM_len ⟨g2, a2, r2, t2, s2⟩)
  rw [HL2.out] at HS2 ⊢
  obtain ⟨x0, x1, x2, x3, x4⟩ := mcells HM2.out
  obtain ⟨z0, z1, z2, z3, z4⟩ := mcells HO2.out
  have hk45 : k ≤ 45 := by omega
  have hm1 : (n : Int) % 46 = (k : Int) := by omega
  have hm2 : (n : Int).tmod 46 = (k : Int) := by rw [Int.tmod_eq_emod_of_nonneg (by omega)]; omega
  have hca := HS12.out.cap
  have hcb := HS2.out.cap
  have hcm1 : c1 ≤ 9223372036854775807 := HMX.out
  have hcm2 : c2 ≤ 9223372036854775807 := HMX2.out
  obtain ⟨b1, o1, rfl, _, _⟩ := HS12.out.blk (by omega)
  go_upto_region 8 with (fail)
  clear x0 x1 x2 x3 x4 z0 z1 z2 z3 z4
  have e1 : (k : Int) ≤ 45 := by omega
  have e2 : (k : Int) ≤ (c1 : Int) := by omega
  have e3 : (k : Int) ≤ (c2 : Int) := by omega
  have hbd : Below w.heap.size w w2.drew := below_drewN HB2.out 1
  refine wp_region_held_drew (S := fun w' => Hid (Below w.heap.size w w')) (by kernel_rfl) (Lib.hid hbd) (fun hHeld => ?_)
  have HB3 := Lib.hid hbd
  have HM3 := Lib.hid (show w2.drew.heap[X]? = _ from HM2.out)
  have HO3 := Lib.hid (show w2.drew.heap[X + 1]? = _ from HO2.out)
  have HT3 := Lib.hid (HT2.out.later (Below.refl w2.heap.size w2).drew HT2.out.lt)
  have HSB := Lib.hid ((HS2.out.later (Below.refl w2.heap.size w2).drew).take k hk45)
  have hsr := (HS12.out.later (Below.refl w2.heap.size w2).drew).drop k hk45
  generalize hLB : (bytesM ⟨g2, a2, r2, t2, s2⟩).take k = LB at *
  generalize hLA : (bytesM ⟨g, a, r, t, s⟩).drop k = LA at *
  have HTO : Hid (LB ++ LA = tornM ⟨g, a, r, t, s⟩ ⟨g2, a2, r2, t2, s2⟩ k) := Lib.hid (by rw [← hLA, ← hLB]; rfl)
  clear hbd hLB hLA HM2 HO2 HB2 HT2
  generalize w2.drew = W2 at *
  have hck : ¬ c1 = k := by omega
  rw [if_neg hck, Option.map_some, Go.WideShapes.add_plain] at hsr
  have HSR := Lib.hid hsr
  clear hsr
  refine wpAnyH_take (i := 1) (oi := ⟨some 51, _, _, _, _, _⟩) (v := .slice p2 45 c2) rfl (by kernel_rfl) (by kernel_rfl) (by kernel_rfl) (fun _ _ _ h => h) (Or.inl ⟨by rfl, fun w' hw' => ?_⟩) (by assumption) ?_
  · clear hHeld
    go_simp
  try simp only [Act.put, List.setIfInBounds_toArray, List.set_cons_zero, List.set_cons_succ]
  refine wpAnyH_take (i := 2) (oi := ⟨some 52, _, _, _, _, _⟩) (v := .int .i64 (k : Int)) rfl (by kernel_rfl) (by kernel_rfl) (by kernel_rfl) (fun _ _ _ h => h) (Or.inl ⟨by rfl, fun w' hw' => ?_⟩) (by assumption) ?_
  · clear hHeld
    go_simp
  try simp only [Act.put, List.setIfInBounds_toArray, List.set_cons_zero, List.set_cons_succ]
  refine wpAnyH_take (i := 3) (oi := ⟨some 53, _, _, _, _, _⟩) (v := .slice p2 k c2) rfl (by kernel_rfl) (by kernel_rfl) (by kernel_rfl) (fun _ _ _ h => h) (Or.inl ⟨by rfl, fun w' hw' => ?_⟩) (by assumption) ?_
  · clear hHeld
    go_simp
  try simp only [Act.put, List.setIfInBounds_toArray, List.set_cons_zero, List.set_cons_succ]
  refine wpAnyH_take (i := 5) (oi := ⟨some 55, _, _, _, _, _⟩) (v := .slice (some ⟨b1, o1, none⟩) 45 c1) rfl (by kernel_rfl) (by kernel_rfl) (by kernel_rfl) (fun _ _ _ h => h) (Or.inl ⟨by rfl, fun w' hw' => ?_⟩) (by assumption) ?_
  · clear hHeld
    go_simp
  try simp only [Act.put, List.setIfInBounds_toArray, List.set_cons_zero, List.set_cons_succ]
  refine wpAnyH_take (i := 6) (oi := ⟨some 56, _, _, _, _, _⟩) (v := .int .i64 (k : Int)) rfl (by kernel_rfl) (by kernel_rfl) (by kernel_rfl) (fun _ _ _ h => h) (Or.inl ⟨by rfl, fun w' hw' => ?_⟩) (by assumption) ?_
  · clear hHeld
    go_simp
  try simp only [Act.put, List.setIfInBounds_toArray, List.set_cons_zero, List.set_cons_succ]
  refine wpAnyH_take (i := 7) (oi := ⟨some 57, _, _, _, _, _⟩) (v := .slice (some ⟨b1, o1 + k, none⟩) (45 - k) (c1 - k)) rfl (by kernel_rfl) (by kernel_rfl) (by kernel_rfl) (fun _ _ _ h => h) (Or.inl ⟨by rfl, fun w' hw' => ?_⟩) (by assumption) ?_
  · clear hHeld
    go_simp
  try simp only [Act.put, List.setIfInBounds_toArray, List.set_cons_zero, List.set_cons_succ]
  refine wpAnyH_ready (rs := [0]) (by kernel_rfl) (by simp) (AllReadyH.cons rfl (fun K hK => ?_) AllReadyH.nil)
  go_simp
  have hba : Below W2.heap.size W2 (W2.alloc (.cells #[] 5)) := (Below.refl _ _).alloc (Nat.le_refl _) _
  refine hK.out _ _ (Lib.hid (HB3.out.trans (hba.mono HB3.out.size))) (fun hHeld2 => ?_)
  clear hK K hHeld
  have hHeld := hHeld2
  clear hHeld2
  try simp only [Act.put, List.setIfInBounds_toArray, List.set_cons_zero, List.set_cons_succ]
  have HOWN := Lib.hid (own_none W2)
  have HSA := Lib.hid (HSB.out.later hba)
  have HBA := Lib.hid hba
  clear hba
  refine wpAnyH_ready (rs := [4]) (by kernel_rfl) (by simp) (AllReadyH.cons rfl (fun K hK => ?_) AllReadyH.nil)
  refine step_append_vals (by decide) Tryd.underlying25 info_u8 rfl (by omega) rfl (.tmp 50) (.tmp 53) rfl (.slice (some ⟨W2.heap.size, 0, none⟩) 0 0) 0 (vL []) (by simp [Act.eval]) HOWN.out.own p2 k c2 (vL LB) (by simp [Act.eval]) (mnews HSA.out).1 (mnews HSA.out).2.1 (mnews HSA.out).2.2 (vL_one _) (by omega) ?_
  intro p4 c4 W4 g1 g2' g3
  have hb4 : Below W2.heap.size W2 W4 := g2'.below HBA.out HBA.out.size fun j hj => by cases hj; exact Nat.le_refl _
  refine hK.out _ _ (Lib.hid (HB3.out.trans (hb4.mono HB3.out.size))) (fun hHeld2 => ?_)
  clear hK K hHeld
  have hHeld := hHeld2
  clear hHeld2
  try simp only [Act.put, List.setIfInBounds_toArray, List.set_cons_zero, List.set_cons_succ]
  have HR4 := Lib.hid g1
  have HK4 : Hid (∀ j, (Value.slice p4 (0 + k) c4).ownBlock = some j → W2.heap.size ≤ j) := Lib.hid fun j hj => by
    rcases g3 j hj with h | h
    · cases h; exact Nat.le_refl _
    · first | omega | (simp at h; omega)
  have HSC := Lib.hid (HSR.out.later hb4)
  have HB4 := Lib.hid hb4
  clear g1 g2' g3 hb4 HSA HBA HOWN
  refine wpAnyH_ready (rs := [8]) (by kernel_rfl) (by simp) (AllReadyH.cons rfl (fun K hK => ?_) AllReadyH.nil)
  refine step_append_vals (by decide) Tryd.underlying25 info_u8 rfl (by omega) rfl (.tmp 54) (.tmp 57) rfl (.slice p4 (0 + k) c4) (0 + k) (vL [] ++ vL LB) (by simp [Act.eval]) HR4.out (some ⟨b1, o1 + k, none⟩) (45 - k) (c1 - k) (vL LA) (by simp [Act.eval]) (mnews HSC.out).1 (mnews HSC.out).2.1 (mnews HSC.out).2.2 (vL_one _) (by omega) ?_
  intro p5 c5 W5 g1 g2' g3
  have hb5 : Below W2.heap.size W2 W5 := g2'.below HB4.out HB4.out.size fun j hj => HK4.out j hj
  refine hK.out _ _ (Lib.hid (HB3.out.trans (hb5.mono HB3.out.size))) (fun hHeld2 => ?_)
  clear hK K hHeld
  have hHeld := hHeld2
  clear hHeld2
  try simp only [Act.put, List.setIfInBounds_toArray, List.set_cons_zero, List.set_cons_succ]
  have hrow : Row W5 (.slice p5 45 c5) 45 (tornM ⟨g, a, r, t, s⟩ ⟨g2, a2, r2, t2, s2⟩ k) := by
    have hlen : 0 + k + (45 - k) = 45 := by omega
    rw [hlen] at g1
    refine ⟨tornM_len _ _ _ (by omega), tornM_lt _ _ _, ?_⟩
    have hv : vL [] ++ vL LB ++ vL LA = vL (tornM ⟨g, a, r, t, s⟩ ⟨g2, a2, r2, t2, s2⟩ k) := by rw [← vL_append, ← vL_append, List.nil_append, HTO.out]
    rw [hv] at g1
    exact g1
  have hlen : 0 + k + (45 - k) = 45 := by omega
  refine wpAnyH_take (i := 9) (oi := ⟨some 12, _, _, _, _, _⟩) (v := .slice p5 (0 + k + (45 - k)) c5) rfl (by kernel_rfl) (by kernel_rfl) (by kernel_rfl) (fun _ _ _ h => h) (Or.inl ⟨by rfl, fun w' hw' => ?_⟩) (by assumption) ?_
  · clear hHeld
    go_simp
  try simp only [Act.put, List.setIfInBounds_toArray, List.set_cons_zero, List.set_cons_succ]
  refine wpAnyH_done (by kernel_rfl) ?_ _
  clear hHeld
  rw [hlen]
  obtain ⟨q5, d5, he5, hm5, hs5, _⟩ := hrow.sl
  cases he5
  have HM5 := Lib.hid (block_later HM3.out hb5)
  have HO5 := Lib.hid (block_later HO3.out hb5)
  have HB5 := Lib.hid (HB3.out.trans (hb5.mono HB3.out.size))
  have HT5 := Lib.hid (HT3.out.later hb5 HT3.out.lt)
  have HD5 := Lib.hid hs5
  have HMX5 := Lib.hid hm5
  clear hrow hs5 hm5 hb5 g1 g2' g3 HR4 HK4 HSC HB4 hlen HSB HSR HM3 HO3 HB3 HT3
  go_wp2_with fail
  refine (mdec_any _ _ _ (tornM ⟨g, a, r, t, s⟩ ⟨g2, a2, r2, t2, s2⟩ k) _ HD5.out HMX5.out (by omega) HT5.out).mono ?_
  rw [HRES.out.1, HRES.out.2]
  rintro e w6 ⟨rfl, hb6⟩
  have hbn := ((Below.refl w6.heap.size w6).alloc (Nat.le_refl _) (.cells #[.int .u64 (g2 : Int), .int .u8 (a2 : Int), .int .i64 (sgn r2), .int .i64 (sgn t2), .int .i64 (sgn s2)] 24))
  have HY6 := Lib.hid (alloc_block w6 (.cells #[.int .u64 (g2 : Int), .int .u8 (a2 : Int), .int .i64 (sgn r2), .int .i64 (sgn t2), .int .i64 (sgn s2)] 24))
  have hbb := hb6.trans (hbn.mono hb6.size)
  have HM6 := Lib.hid (block_later HM5.out hbb)
  have HO6 := Lib.hid (block_later HO5.out hbb)
  have HB6 := Lib.hid (HB5.out.trans (hbb.mono HB5.out.size))
  have HT6 := Lib.hid (HT5.out.later hbb HT5.out.lt)
  clear hb6 hbn hbb HM5 HO5 HB5 HT5 HD5
  go_upto_region 10 with (fail)
  generalize w6.alloc (.cells #[.int .u64 (g2 : Int), .int .u8 (a2 : Int), .int .i64 (sgn r2), .int .i64 (sgn t2), .int .i64 (sgn s2)] 24) = W6 at *
  generalize w6.heap.size = Y6 at *
  obtain ⟨x0, x1, x2, x3, x4⟩ := mcells HM6.out
  obtain ⟨y0, y1, y2, y3, y4⟩ := mcells HY6.out
  obtain ⟨z0, z1, z2, z3, z4⟩ := mcells HO6.out
  go_wp2_with fail
  refine (works16 _ HT6.out).mono ?_
  rintro e w9 ⟨rfl, h6⟩
  have HF := Lib.hid (HB6.out.trans (h6.mono HB6.out.size))
  clear h6
  go_wp2_with fail
  go_ret
  exact ⟨rfl, HF.out⟩
set_option maxHeartbeats 2000000 in
theorem mtorn_bad (g a r t s g2 a2 r2 t2 s2 n k : Nat) (hm : Mv.ok ⟨g, a, r, t, s⟩) (ho : Mv.ok ⟨g2, a2, r2, t2, s2⟩) (hn : n < 256) (hnk : n % 46 = k) (w : World) (hT : Tab w) (hgood : goodM ⟨g, a, r, t, s⟩ = true) (hgo : goodM ⟨g2, a2, r2, t2, s2⟩ = true) (hg : g ≠ g2) (h0 : 0 < k) (h45 : k < 45) (x : Int) (g3 a3 r3 t3 s3 : Nat) (hx : (x == 0) = false) (hres : dE (tornM ⟨g, a, r, t, s⟩ ⟨g2, a2, r2, t2, s2⟩ k) = x ∧ dV (tornM ⟨g, a, r, t, s⟩ ⟨g2, a2, r2, t2, s2⟩ k) = ⟨g3, a3, r3, t3, s3⟩) :
    Calls Tryd.prog 6 #[.agg #[.int .u64 (g : Int), .int .u8 (a : Int), .int .i64 (sgn r), .int .i64 (sgn t), .int .i64 (sgn s)], .agg #[.int .u64 (g2 : Int), .int .u8 (a2 : Int), .int .i64 (sgn r2), .int .i64 (sgn t2), .int .i64 (sgn s2)], .int .u8 (n : Int)] w fun e w' => e = .returned (.bool true) ∧ Below w.heap.size w w' := by
  have henc : ∀ w', Tab w' → Calls Tryd.prog 7 #[.agg #[.int .u64 (g : Int), .int .u8 (a : Int), .int .i64 (sgn r), .int .i64 (sgn t), .int .i64 (sgn s)]] w' (GivesE w' (encL ⟨g, a, r, t, s⟩) (encE ⟨g, a, r, t, s⟩)) := fun w' hT' => menc_any ⟨g, a, r, t, s⟩ hm w' hT'
  have heno : ∀ w', Tab w' → Calls Tryd.prog 7 #[.agg #[.int .u64 (g2 : Int), .int .u8 (a2 : Int), .int .i64 (sgn r2), .int .i64 (sgn t2), .int .i64 (sgn s2)]] w' (GivesE w' (encL ⟨g2, a2, r2, t2, s2⟩) (encE ⟨g2, a2, r2, t2, s2⟩)) := fun w' hT' => menc_any ⟨g2, a2, r2, t2, s2⟩ ho w' hT'
  obtain ⟨hb0, hxo⟩ := mtwo w #[.int .u64 (g : Int), .int .u8 (a : Int), .int .i64 (sgn r), .int .i64 (sgn t), .int .i64 (sgn s)] #[.int .u64 (g2 : Int), .int .u8 (a2 : Int), .int .i64 (sgn r2), .int .i64 (sgn t2), .int .i64 (sgn s2)] 24 24
  have hxm := block_later (alloc_block w (.cells #[.int .u64 (g : Int), .int .u8 (a : Int), .int .i64 (sgn r), .int .i64 (sgn t), .int .i64 (sgn s)] 24)) ((Below.refl _ _).alloc (Nat.le_refl _) (.cells #[.int .u64 (g2 : Int), .int .u8 (a2 : Int), .int .i64 (sgn r2), .int .i64 (sgn t2), .int .i64 (sgn s2)] 24))
  have HB0 := Lib.hid hb0
  have HT0 := Lib.hid (hT.later hb0 hT.lt)
  have HO0 := Lib.hid hxo
  have HM0 := Lib.hid hxm
  obtain ⟨X, hX⟩ : ∃ X, w.heap.size = X := ⟨_, rfl⟩
  rw [hX] at HO0 HM0
  have HENC := Lib.hid henc
  have HENO := Lib.hid heno
  have HMO := Lib.hid (show Mv.ok ⟨g, a, r, t, s⟩ ∧ Mv.ok ⟨g2, a2, r2, t2, s2⟩ from ⟨hm, ho⟩)
  clear hb0 hxo hxm hT henc heno hm ho
  obtain ⟨x0, x1, x2, x3, x4⟩ := mcells HM0.out
  obtain ⟨z0, z1, z2, z3, z4⟩ := mcells HO0.out
  have HEN := Lib.hid (encL_good hgood)
  have HEO := Lib.hid (encL_good hgo)
  have hk1 : ((k : Int) == 0) = false := by simp; omega
  have hk2 : ((k : Int) == 45) = false := by simp; omega
  have hk3 : (k == 0) = false := by simp; omega
  have hk4 : (k == 45) = false := by simp; omega
  have HRES := Lib.hid hres
  have hx2 : (x != 0) = true := by rw [bne, hx]; rfl
  clear hres
  have hg1 : ((g : Int) == (g2 : Int)) = false := by simpa using fun h => hg (by exact_mod_cast h)
  have hg2 : ((g2 : Int) == (g : Int)) = false := by simpa using fun h => hg (by exact_mod_cast h.symm)
  have hg3 : (g == g2) = false := by simpa using hg
  have hg4 : (g2 == g) = false := by simpa using fun h => hg h.symm
  clear hgood hgo hg
  go_enter Tryd.func6, Tryd.ntmps6
  go_wp2_with fail
  refine (HENC.out _ HT0.out).mono ?_
  rw [HEN.out.1, HEN.out.2]
  rintro e w1 ⟨p1, c1, rfl, hs1, hb1, _, hm1⟩
  have HM1 := Lib.hid (block_later HM0.out hb1)
  have HO1 := Lib.hid (block_later HO0.out hb1)
  have HB1 := Lib.hid (HB0.out.trans (hb1.mono HB0.out.size))
  have HT1 := Lib.hid (HT0.out.later hb1 HT0.out.lt)
  have HS1 := Lib.hid hs1
  have HMX := Lib.hid hm1
  clear hb1 hs1 hm1 HM0 HO0 HB0 HT0 x0 x1 x2 x3 x4 z0 z1 z2 z3 z4 hX
  have HL1 := Lib.hid (bytesM_len ⟨g, a, r, t, s⟩)
  rw [HL1.out] at HS1 ⊢
  obtain ⟨x0, x1, x2, x3, x4⟩ := mcells HM1.out
  obtain ⟨z0, z1, z2, z3, z4⟩ := mcells HO1.out
  go_wp2_with fail
  clear x0 x1 x2 x3 x4 z0 z1 z2 z3 z4
  refine (HENO.out _ HT1.out).mono ?_
  rw [HEO.out.1, HEO.out.2]
  rintro e w2 ⟨p2, c2, rfl, hs2, hb2, _, hm2⟩
  have HM2 := Lib.hid (block_later HM1.out hb2)
  have HO2 := Lib.hid (block_later HO1.out hb2)
  have HB2 := Lib.hid (HB1.out.trans (hb2.mono HB1.out.size))
  have HT2 := Lib.hid (HT1.out.later hb2 HT1.out.lt)
  have HS12 := Lib.hid (HS1.out.later hb2)
  have HS2 := Lib.hid hs2
  have HMX2 := Lib.hid hm2
  clear hb2 hs2 hm2 HM1 HO1 HB1 HT1 HS1
  have HL2 := Lib.hid (bytesM_len ⟨g2, a2, r2, t2, s2⟩)
  rw [HL2.out] at HS2 ⊢
  obtain ⟨x0, x1, x2, x3, x4⟩ := mcells HM2.out
  obtain ⟨z0, z1, z2, z3, z4⟩ := mcells HO2.out
  have hk45 : k ≤ 45 := by omega
  have hm1 : (n : Int) % 46 = (k : Int) := by omega
  have hm2 : (n : Int).tmod 46 = (k : Int) := by rw [Int.tmod_eq_emod_of_nonneg (by omega)]; omega
  have hca := HS12.out.cap
  have hcb := HS2.out.cap
  have hcm1 : c1 ≤ 9223372036854775807 := HMX.out
  have hcm2 : c2 ≤ 9223372036854775807 := HMX2.out
  obtain ⟨b1, o1, rfl, _, _⟩ := HS12.out.blk (by omega)
  go_upto_region 8 with (fail)
  clear x0 x1 x2 x3 x4 z0 z1 z2 z3 z4
  have e1 : (k : Int) ≤ 45 := by omega
  have e2 : (k : Int) ≤ (c1 : Int) := by omega
  have e3 : (k : Int) ≤ (c2 : Int) := by omega
  have hbd : Below w.heap.size w w2.drew := below_drewN HB2.out 1
  refine wp_region_held_drew (S := fun w' => Hid (Below w.heap.size w w')) (by kernel_rfl) (Lib.hid hbd) (fun hHeld => ?_)
  have HB3 := Lib.hid hbd
  have HM3 := Lib.hid (show w2.drew.heap[X]? = _ from HM2.out)
  have HO3 := Lib.hid (show w2.drew.heap[X + 1]? = _ from HO2.out)
  have HT3 := Lib.hid (HT2.out.later (Below.refl w2.heap.size w2).drew HT2.out.lt)
  have HSB := Lib.hid ((HS2.out.later (Below.refl w2.heap.size w2).drew).take k hk45)
  have hsr := (HS12.out.later (Below.refl w2.heap.size w2).drew).drop k hk45
  generalize hLB : (bytesM ⟨g2, a2, r2, t2, s2⟩).take k = LB at *
  generalize hLA : (bytesM ⟨g, a, r, t, s⟩).drop k = LA at *
  have HTO : Hid (LB ++ LA = tornM ⟨g, a, r, t, s⟩ ⟨g2, a2, r2, t2, s2⟩ k) := Lib.hid (by rw [← hLA, ← hLB]; rfl)
  clear hbd hLB hLA HM2 HO2 HB2 HT2
  generalize w2.drew = W2 at *
  have hck : ¬ c1 = k := by omega
  rw [if_neg hck, Option.map_some, Go.WideShapes.add_plain] at hsr
  have HSR := Lib.hid hsr
  clear hsr
  refine wpAnyH_take (i := 1) (oi := ⟨some 51, _, _, _, _, _⟩) (v := .slice p2 45 c2) rfl (by kernel_rfl) (by kernel_rfl) (by kernel_rfl) (fun _ _ _ h => h) (Or.inl ⟨by rfl, fun w' hw' => ?_⟩) (by assumption) ?_
  · clear hHeld
    go_simp
  try simp only [Act.put, List.setIfInBounds_toArray, List.set_cons_zero, List.set_cons_succ]
  refine wpAnyH_take (i := 2) (oi := ⟨some 52, _, _, _, _, _⟩) (v := .int .i64 (k : Int)) rfl (by kernel_rfl) (by kernel_rfl) (by kernel_rfl) (fun _ _ _ h => h) (Or.inl ⟨by rfl, fun w' hw' => ?_⟩) (by assumption) ?_
  · clear hHeld
    go_simp
  try simp only [Act.put, List.setIfInBounds_toArray, List.set_cons_zero, List.set_cons_succ]
  refine wpAnyH_take (i := 3) (oi := ⟨some 53, _, _, _, _, _⟩) (v := .slice p2 k c2) rfl (by kernel_rfl) (by kernel_rfl) (by kernel_rfl) (fun _ _ _ h => h) (Or.inl ⟨by rfl, fun w' hw' => ?_⟩) (by assumption) ?_
  · clear hHeld
    go_simp
  try simp only [Act.put, List.setIfInBounds_toArray, List.set_cons_zero, List.set_cons_succ]
  refine wpAnyH_take (i := 5) (oi := ⟨some 55, _, _, _, _, _⟩) (v := .slice (some ⟨b1, o1, none⟩) 45 c1) rfl (by kernel_rfl) (by kernel_rfl) (by kernel_rfl) (fun _ _ _ h => h) (Or.inl ⟨by rfl, fun w' hw' => ?_⟩) (by assumption) ?_
  · clear hHeld
    go_simp
  try simp only [Act.put, List.setIfInBounds_toArray, List.set_cons_zero, List.set_cons_succ]
  refine wpAnyH_take (i := 6) (oi := ⟨some 56, _, _, _, _, _⟩) (v := .int .i64 (k : Int)) rfl (by kernel_rfl) (by kernel_rfl) (by kernel_rfl) (fun _ _ _ h => h) (Or.inl ⟨by rfl, fun w' hw' => ?_⟩) (by assumption) ?_
  · clear hHeld
    go_simp
  try simp only [Act.put, List.setIfInBounds_toArray, List.set_cons_zero, List.set_cons_succ]
  refine wpAnyH_take (i := 7) (oi := ⟨some 57, _, _, _, _, _⟩) (v := .slice (some ⟨b1, o1 + k, none⟩) (45 - k) (c1 - k)) rfl (by kernel_rfl) (by kernel_rfl) (by kernel_rfl) (fun _ _ _ h => h) (Or.inl ⟨by rfl, fun w' hw' => ?_⟩) (by assumption) ?_
  · clear hHeld
    go_simp
  try simp only [Act.put, List.setIfInBounds_toArray, List.set_cons_zero, List.set_cons_succ]
  refine wpAnyH_ready (rs := [0]) (by kernel_rfl) (by simp) (AllReadyH.cons rfl (fun K hK => ?_) AllReadyH.nil)
  go_simp
  have hba : Below W2.heap.size W2 (W2.alloc (.cells #[] 5)) := (Below.refl _ _).alloc (Nat.le_refl _) _
  refine hK.out _ _ (Lib.hid (HB3.out.trans (hba.mono HB3.out.size))) (fun hHeld2 => ?_)
  clear hK K hHeld
  have hHeld := hHeld2
  clear hHeld2
  try simp only [Act.put, List.setIfInBounds_toArray, List.set_cons_zero, List.set_cons_succ]
  have HOWN := Lib.hid (own_none W2)
  have HSA := Lib.hid (HSB.out.later hba)
  have HBA := Lib.hid hba
  clear hba
  refine wpAnyH_ready (rs := [4]) (by kernel_rfl) (by simp) (AllReadyH.cons rfl (fun K hK => ?_) AllReadyH.nil)
  refine step_append_vals (by decide) Tryd.underlying25 info_u8 rfl (by omega) rfl (.tmp 50) (.tmp 53) rfl (.slice (some ⟨W2.heap.size, 0, none⟩) 0 0) 0 (vL []) (by simp [Act.eval]) HOWN.out.own p2 k c2 (vL LB) (by simp [Act.eval]) (mnews HSA.out).1 (mnews HSA.out).2.1 (mnews HSA.out).2.2 (vL_one _) (by omega) ?_
  intro p4 c4 W4 g1 g2' g3
  have hb4 : Below W2.heap.size W2 W4 := g2'.below HBA.out HBA.out.size fun j hj => by cases hj; exact Nat.le_refl _
  refine hK.out _ _ (Lib.hid (HB3.out.trans (hb4.mono HB3.out.size))) (fun hHeld2 => ?_)
  clear hK K hHeld
  have hHeld := hHeld2
  clear hHeld2
  try simp only [Act.put, List.setIfInBounds_toArray, List.set_cons_zero, List.set_cons_succ]
  have HR4 := Lib.hid g1
  have HK4 : Hid (∀ j, (Value.slice p4 (0 + k) c4).ownBlock = some j → W2.heap.size ≤ j) := Lib.hid fun j hj => by
    rcases g3 j hj with h | h
    · cases h; exact Nat.le_refl _
    · first | omega | (simp at h; omega)
  have HSC := Lib.hid (HSR.out.later hb4)
  have HB4 := Lib.hid hb4
  clear g1 g2' g3 hb4 HSA HBA HOWN
  refine wpAnyH_ready (rs := [8]) (by kernel_rfl) (by simp) (AllReadyH.cons rfl (fun K hK => ?_) AllReadyH.nil)
  refine step_append_vals (by decide) Tryd.underlying25 info_u8 rfl (by omega) rfl (.tmp 54) (.tmp 57) rfl (.slice p4 (0 + k) c4) (0 + k) (vL [] ++ vL LB) (by simp [Act.eval]) HR4.out (some ⟨b1, o1 + k, none⟩) (45 - k) (c1 - k) (vL LA) (by simp [Act.eval]) (mnews HSC.out).1 (mnews HSC.out).2.1 (mnews HSC.out).2.2 (vL_one _) (by omega) ?_
  intro p5 c5 W5 g1 g2' g3
  have hb5 : Below W2.heap.size W2 W5 := g2'.below HB4.out HB4.out.size fun j hj => HK4.out j hj
  refine hK.out _ _ (Lib.hid (HB3.out.trans (hb5.mono HB3.out.size))) (fun hHeld2 => ?_)
  clear hK K hHeld
  have hHeld := hHeld2
  clear hHeld2
  try simp only [Act.put, List.setIfInBounds_toArray, List.set_cons_zero, List.set_cons_succ]
  have hrow : Row W5 (.slice p5 45 c5) 45 (tornM ⟨g, a, r, t, s⟩ ⟨g2, a2, r2, t2, s2⟩ k) := by
    have hlen : 0 + k + (45 - k) = 45 := by omega
    rw [hlen] at g1
    refine ⟨tornM_len _ _ _ (by omega), tornM_lt _ _ _, ?_⟩
    have hv : vL [] ++ vL LB ++ vL LA = vL (tornM ⟨g, a, r, t, s⟩ ⟨g2, a2, r2, t2, s2⟩ k) := by rw [← vL_append, ← vL_append, List.nil_append, HTO.out]
    rw [hv] at g1
    exact g1
  have hlen : 0 + k + (45 - k) = 45 := by omega
  refine wpAnyH_take (i := 9) (oi := ⟨some 12, _, _, _, _, _⟩) (v := .slice p5 (0 + k + (45 - k)) c5) rfl (by kernel_rfl) (by kernel_rfl) (by kernel_rfl) (fun _ _ _ h => h) (Or.inl ⟨by rfl, fun w' hw' => ?_⟩) (by assumption) ?_
  · clear hHeld
    go_simp
  try simp only [Act.put, List.setIfInBounds_toArray, List.set_cons_zero, List.set_cons_succ]
  refine wpAnyH_done (by kernel_rfl) ?_ _
  clear hHeld
  rw [hlen]
  obtain ⟨q5, d5, he5, hm5, hs5, _⟩ := hrow.sl
  cases he5
  have HM5 := Lib.hid (block_later HM3.out hb5)
  have HO5 := Lib.hid (block_later HO3.out hb5)
  have HB5 := Lib.hid (HB3.out.trans (hb5.mono HB3.out.size))
  have HT5 := Lib.hid (HT3.out.later hb5 HT3.out.lt)
  have HD5 := Lib.hid hs5
  have HMX5 := Lib.hid hm5
  clear hrow hs5 hm5 hb5 g1 g2' g3 HR4 HK4 HSC HB4 hlen HSB HSR HM3 HO3 HB3 HT3
  go_wp2_with fail
  refine (mdec_any _ _ _ (tornM ⟨g, a, r, t, s⟩ ⟨g2, a2, r2, t2, s2⟩ k) _ HD5.out HMX5.out (by omega) HT5.out).mono ?_
  rw [HRES.out.1, HRES.out.2]
  rintro e w6 ⟨rfl, hb6⟩
  have hbn := ((Below.refl w6.heap.size w6).alloc (Nat.le_refl _) (.cells #[.int .u64 (g3 : Int), .int .u8 (a3 : Int), .int .i64 (sgn r3), .int .i64 (sgn t3), .int .i64 (sgn s3)] 24))
  have HY6 := Lib.hid (alloc_block w6 (.cells #[.int .u64 (g3 : Int), .int .u8 (a3 : Int), .int .i64 (sgn r3), .int .i64 (sgn t3), .int .i64 (sgn s3)] 24))
  have hbb := hb6.trans (hbn.mono hb6.size)
  have HM6 := Lib.hid (block_later HM5.out hbb)
  have HO6 := Lib.hid (block_later HO5.out hbb)
  have HB6 := Lib.hid (HB5.out.trans (hbb.mono HB5.out.size))
  have HT6 := Lib.hid (HT5.out.later hbb HT5.out.lt)
  clear hb6 hbn hbb HM5 HO5 HB5 HT5 HD5
  go_upto_region 10 with (fail)
  generalize w6.alloc (.cells #[.int .u64 (g3 : Int), .int .u8 (a3 : Int), .int .i64 (sgn r3), .int .i64 (sgn t3), .int .i64 (sgn s3)] 24) = W6 at *
  generalize w6.heap.size = Y6 at *
  obtain ⟨x0, x1, x2, x3, x4⟩ := mcells HM6.out
  obtain ⟨y0, y1, y2, y3, y4⟩ := mcells HY6.out
  obtain ⟨z0, z1, z2, z3, z4⟩ := mcells HO6.out
  go_wp2_with fail
  refine (works16 _ HT6.out).mono ?_
  rintro e w9 ⟨rfl, h6⟩
  have HF := Lib.hid (HB6.out.trans (h6.mono HB6.out.size))
  clear h6
  go_wp2_with fail
  go_ret
  exact ⟨rfl, HF.out⟩
theorem law_mtorn (m o : Mv) (hm : m.ok) (ho : o.ok) (n : Nat) (hn : n < 256) (w : World) (hT : Tab w) :
    Calls Tryd.prog 6 #[.agg #[.int .u64 ((m.g : Nat) : Int), .int .u8 ((m.a : Nat) : Int), .int .i64 (sgn m.r), .int .i64 (sgn m.t), .int .i64 (sgn m.s)], .agg #[.int .u64 ((o.g : Nat) : Int), .int .u8 ((o.a : Nat) : Int), .int .i64 (sgn o.r), .int .i64 (sgn o.t), .int .i64 (sgn o.s)], .int .u8 (n : Int)] w fun e w' => e = .returned (.bool true) ∧ Below w.heap.size w w' := by
  obtain ⟨g, a, r, t, s⟩ := m
  obtain ⟨g2, a2, r2, t2, s2⟩ := o
  cases hgood : goodM ⟨g, a, r, t, s⟩ with
  | false =>
    cases hgo : goodM ⟨g2, a2, r2, t2, s2⟩ with
    | true => exact mtorn_bada g a r t s g2 a2 r2 t2 s2 n _ hm ho hn rfl w hT hgood hgo
    | false => exact mtorn_badb g a r t s g2 a2 r2 t2 s2 n _ hm ho hn rfl w hT hgood hgo
  | true =>
    cases hgo : goodM ⟨g2, a2, r2, t2, s2⟩ with
    | false => exact mtorn_badc g a r t s g2 a2 r2 t2 s2 n _ hm ho hn rfl w hT hgood hgo
    | true =>
      by_cases hg : g = g2
      · exact mtorn_same g a r t s g2 a2 r2 t2 s2 n _ hm ho hn rfl w hT hgood hgo hg
      · by_cases h0 : n % 46 = 0
        · exact mtorn_none g a r t s g2 a2 r2 t2 s2 n _ hm ho hn rfl w hT hgood hgo hg h0
        · by_cases h45 : n % 46 = 45
          · exact mtorn_all g a r t s g2 a2 r2 t2 s2 n _ hm ho hn rfl w hT hgood hgo hg h45
          · by_cases hz : dE (tornM ⟨g, a, r, t, s⟩ ⟨g2, a2, r2, t2, s2⟩ (n % 46)) = 0
            · rcases torn_reads hm ho hgood hgo hg (n % 46) (by omega) hz with h | h
              · exact mtorn_old g a r t s g2 a2 r2 t2 s2 n _ hm ho hn rfl w hT hgood hgo hg (by omega) (by omega) ⟨hz, h⟩
              · exact mtorn_now g a r t s g2 a2 r2 t2 s2 n _ hm ho hn rfl w hT hgood hgo hg (by omega) (by omega) ⟨hz, h⟩
            · exact mtorn_bad g a r t s g2 a2 r2 t2 s2 n _ hm ho hn rfl w hT hgood hgo hg (by omega) (by omega) _ _ _ _ _ _ (by simpa using hz) ⟨rfl, rfl⟩
end Go.Proofs.YtppmokkbepihhaaDoor
