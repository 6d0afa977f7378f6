/- MasterBack: Any master that is encoded, whatever follows, is decoded as it was; in either slot it is picked. (Written by tools/src/mkmasterlback.py.) -/
import Derived.Test.YtppmokkbepihhaaDoorMasterLbytes
namespace Go.Proofs.YtppmokkbepihhaaDoor
open Go.RowKit Go.ChangeShapes Go.WideShapes
set_option linter.unusedVariables false
set_option linter.unusedSimpArgs false
set_option maxRecDepth 10000

theorem pick_back {m o : Mv} (hm : m.ok) (ho : o.ok) (hg : goodM m = true) (h : goodM o = true → o.g < m.g) :
    (pickV (bytesM m) (encL o) = m ∧ pickK (bytesM m) (encL o) = 0 ∧ pickE (bytesM m) (encL o) = 0) ∧ (pickV (encL o) (bytesM m) = m ∧ pickK (encL o) (bytesM m) = 1 ∧ pickE (encL o) (bytesM m) = 0) := by
  have h1 := dE_bytes hm hg []
  have h2 := dV_bytes hm hg []
  rw [List.append_nil] at h1 h2
  cases hgo : goodM o with
  | true =>
    have h3 := dE_bytes ho hgo []
    have h4 := dV_bytes ho hgo []
    rw [List.append_nil] at h3 h4
    have hlt := h hgo
    rw [(encL_good hgo).1]
    unfold pickV pickK pickE
    rw [h1, h2, h3, h4]
    have y1 : (0 : Int) = 0 ∧ ((0 : Int) ≠ 0 ∨ o.g ≤ m.g) := ⟨rfl, .inr (by omega)⟩
    have y2 : ¬ ((0 : Int) = 0 ∧ ((0 : Int) ≠ 0 ∨ m.g ≤ o.g)) := fun hh => hh.2.elim (fun h => h rfl) (by omega)
    rw [if_pos y1, if_pos y1, if_neg y2, if_neg y2]
    exact ⟨⟨rfl, rfl, rfl⟩, rfl, rfl, rfl⟩
  | false =>
    rw [(encL_bad hgo).1]
    have h3 : dE [] = 6 := dE_short (by show 0 < 45; omega)
    unfold pickV pickK pickE
    rw [h1, h2, h3]
    have y1 : (0 : Int) = 0 ∧ ((6 : Int) ≠ 0 ∨ (dV []).g ≤ m.g) := ⟨rfl, .inl (by decide)⟩
    have y2 : ¬ ((6 : Int) = 0 ∧ ((0 : Int) ≠ 0 ∨ m.g ≤ (dV []).g)) := fun hh => by have := hh.1; omega
    rw [if_pos y1, if_pos y1, if_neg y2, if_neg y2]
    exact ⟨⟨rfl, rfl, rfl⟩, rfl, rfl, rfl⟩
set_option maxHeartbeats 2000000 in
theorem mback_bad (g a r t s g2 a2 r2 t2 s2 : Nat) (hm : Mv.ok ⟨g, a, r, t, s⟩) (ho : Mv.ok ⟨g2, a2, r2, t2, s2⟩) (p : Option Addr) (n c : Nat) (L : List Nat) (w : World) (hT : Tab w) (hS : Sl w p n c L) (hc : c ≤ maxLen) (hgood : goodM ⟨g, a, r, t, s⟩ = false) :
    Calls Tryd.prog 5 #[.agg #[.int .u64 (g : Int), .int .u8 (a : Int), .int .i64 (sgn r), .int .i64 (sgn t), .int .i64 (sgn s)], .slice p n c, .agg #[.int .u64 (g2 : Int), .int .u8 (a2 : Int), .int .i64 (sgn r2), .int .i64 (sgn t2), .int .i64 (sgn s2)]] w fun e w' => e = .returned (.bool true) ∧ Below w.heap.size w w' := by
  obtain ⟨k, hk, hkn, hk50⟩ : ∃ k : Nat, min (n : Int) 50 = (k : Int) ∧ k ≤ n ∧ k ≤ 50 := mmin_of n 50
  have hcap := hS.cap
  have hc63 : c ≤ 9223372036854775807 := hc
  have henc : ∀ w', Tab w' → Calls Tryd.prog 7 #[.agg #[.int .u64 (g : Int), .int .u8 (a : Int), .int .i64 (sgn r), .int .i64 (sgn t), .int .i64 (sgn s)]] w' (GivesE w' (encL ⟨g, a, r, t, s⟩) (encE ⟨g, a, r, t, s⟩)) := fun w' hT' => menc_any ⟨g, a, r, t, s⟩ hm w' hT'
  have heno : ∀ w', Tab w' → Calls Tryd.prog 7 #[.agg #[.int .u64 (g2 : Int), .int .u8 (a2 : Int), .int .i64 (sgn r2), .int .i64 (sgn t2), .int .i64 (sgn s2)]] w' (GivesE w' (encL ⟨g2, a2, r2, t2, s2⟩) (encE ⟨g2, a2, r2, t2, s2⟩)) := fun w' hT' => menc_any ⟨g2, a2, r2, t2, s2⟩ ho w' hT'
  obtain ⟨hb0, hxo⟩ := mtwo w #[.int .u64 (g : Int), .int .u8 (a : Int), .int .i64 (sgn r), .int .i64 (sgn t), .int .i64 (sgn s)] #[.int .u64 (g2 : Int), .int .u8 (a2 : Int), .int .i64 (sgn r2), .int .i64 (sgn t2), .int .i64 (sgn s2)] 24 24
  have hxm := block_later (alloc_block w (.cells #[.int .u64 (g : Int), .int .u8 (a : Int), .int .i64 (sgn r), .int .i64 (sgn t), .int .i64 (sgn s)] 24)) ((Below.refl _ _).alloc (Nat.le_refl _) (.cells #[.int .u64 (g2 : Int), .int .u8 (a2 : Int), .int .i64 (sgn r2), .int .i64 (sgn t2), .int .i64 (sgn s2)] 24))
  have HB0 := Lib.hid hb0
  have HT0 := Lib.hid (hT.later hb0 hT.lt)
  have HSK := Lib.hid ((hS.take k hkn).later hb0)
  have HO0 := Lib.hid hxo
  have HM0 := Lib.hid hxm
  generalize L.take k = K at *
  obtain ⟨X, hX⟩ : ∃ X, w.heap.size = X := ⟨_, rfl⟩
  rw [hX] at HO0 HM0
  have HENC := Lib.hid henc
  have HENO := Lib.hid heno
  clear hb0 hxo hxm hT hS henc heno
  obtain ⟨x0, x1, x2, x3, x4⟩ := mcells HM0.out
  obtain ⟨z0, z1, z2, z3, z4⟩ := mcells HO0.out
  have HEN := Lib.hid (encL_bad hgood)
  clear hgood
  go_enter Tryd.func5, Tryd.ntmps5
  go_wp2_with fail
  refine (HENC.out _ HT0.out).mono ?_
  rw [HEN.out.1, HEN.out.2]
  rintro e w1 ⟨p1, c1, rfl, hs1, hb1, _, hm1⟩
  have HM1 := Lib.hid (block_later HM0.out hb1)
  have HO1 := Lib.hid (block_later HO0.out hb1)
  have HB1 := Lib.hid (HB0.out.trans (hb1.mono HB0.out.size))
  have HT1 := Lib.hid (HT0.out.later hb1 HT0.out.lt)
  have HSK1 := Lib.hid (HSK.out.later hb1)
  have HS1 := Lib.hid hs1
  have HMX := Lib.hid hm1
  clear hb1 hs1 hm1 HM0 HO0 HB0 HT0 HSK x0 x1 x2 x3 x4 z0 z1 z2 z3 z4 hX
  go_wp2_with fail
  refine (works16 _ HT1.out).mono ?_
  rintro e w9 ⟨rfl, h6⟩
  have HF := Lib.hid (HB1.out.trans (h6.mono HB1.out.size))
  clear h6
  go_wp2_with fail
  go_ret
  exact ⟨rfl, HF.out⟩
set_option maxHeartbeats 2000000 in
theorem mback_elder (g a r t s g2 a2 r2 t2 s2 : Nat) (hm : Mv.ok ⟨g, a, r, t, s⟩) (ho : Mv.ok ⟨g2, a2, r2, t2, s2⟩) (p : Option Addr) (n c : Nat) (L : List Nat) (w : World) (hT : Tab w) (hS : Sl w p n c L) (hc : c ≤ maxLen) (hgood : goodM ⟨g, a, r, t, s⟩ = true) (hgo : goodM ⟨g2, a2, r2, t2, s2⟩ = true) (hge : g ≤ g2) :
    Calls Tryd.prog 5 #[.agg #[.int .u64 (g : Int), .int .u8 (a : Int), .int .i64 (sgn r), .int .i64 (sgn t), .int .i64 (sgn s)], .slice p n c, .agg #[.int .u64 (g2 : Int), .int .u8 (a2 : Int), .int .i64 (sgn r2), .int .i64 (sgn t2), .int .i64 (sgn s2)]] w fun e w' => e = .returned (.bool true) ∧ Below w.heap.size w w' := by
  obtain ⟨k, hk, hkn, hk50⟩ : ∃ k : Nat, min (n : Int) 50 = (k : Int) ∧ k ≤ n ∧ k ≤ 50 := mmin_of n 50
  have hcap := hS.cap
  have hc63 : c ≤ 9223372036854775807 := hc
  have henc : ∀ w', Tab w' → Calls Tryd.prog 7 #[.agg #[.int .u64 (g : Int), .int .u8 (a : Int), .int .i64 (sgn r), .int .i64 (sgn t), .int .i64 (sgn s)]] w' (GivesE w' (encL ⟨g, a, r, t, s⟩) (encE ⟨g, a, r, t, s⟩)) := fun w' hT' => menc_any ⟨g, a, r, t, s⟩ hm w' hT'
  have heno : ∀ w', Tab w' → Calls Tryd.prog 7 #[.agg #[.int .u64 (g2 : Int), .int .u8 (a2 : Int), .int .i64 (sgn r2), .int .i64 (sgn t2), .int .i64 (sgn s2)]] w' (GivesE w' (encL ⟨g2, a2, r2, t2, s2⟩) (encE ⟨g2, a2, r2, t2, s2⟩)) := fun w' hT' => menc_any ⟨g2, a2, r2, t2, s2⟩ ho w' hT'
  obtain ⟨hb0, hxo⟩ := mtwo w #[.int .u64 (g : Int), .int .u8 (a : Int), .int .i64 (sgn r), .int .i64 (sgn t), .int .i64 (sgn s)] #[.int .u64 (g2 : Int), .int .u8 (a2 : Int), .int .i64 (sgn r2), .int .i64 (sgn t2), .int .i64 (sgn s2)] 24 24
  have hxm := block_later (alloc_block w (.cells #[.int .u64 (g : Int), .int .u8 (a : Int), .int .i64 (sgn r), .int .i64 (sgn t), .int .i64 (sgn s)] 24)) ((Below.refl _ _).alloc (Nat.le_refl _) (.cells #[.int .u64 (g2 : Int), .int .u8 (a2 : Int), .int .i64 (sgn r2), .int .i64 (sgn t2), .int .i64 (sgn s2)] 24))
  have HB0 := Lib.hid hb0
  have HT0 := Lib.hid (hT.later hb0 hT.lt)
  have HSK := Lib.hid ((hS.take k hkn).later hb0)
  have HO0 := Lib.hid hxo
  have HM0 := Lib.hid hxm
  generalize L.take k = K at *
  obtain ⟨X, hX⟩ : ∃ X, w.heap.size = X := ⟨_, rfl⟩
  rw [hX] at HO0 HM0
  have HENC := Lib.hid henc
  have HENO := Lib.hid heno
  clear hb0 hxo hxm hT hS henc heno
  obtain ⟨x0, x1, x2, x3, x4⟩ := mcells HM0.out
  obtain ⟨z0, z1, z2, z3, z4⟩ := mcells HO0.out
  have HEN := Lib.hid (encL_good hgood)
  have HDE := Lib.hid (dE_bytes hm hgood K)
  have HDV := Lib.hid (dV_bytes hm hgood K)
  have HEO := Lib.hid (encL_good hgo)
  clear hgood hgo
  go_enter Tryd.func5, Tryd.ntmps5
  go_wp2_with fail
  refine (HENC.out _ HT0.out).mono ?_
  rw [HEN.out.1, HEN.out.2]
  rintro e w1 ⟨p1, c1, rfl, hs1, hb1, _, hm1⟩
  have HM1 := Lib.hid (block_later HM0.out hb1)
  have HO1 := Lib.hid (block_later HO0.out hb1)
  have HB1 := Lib.hid (HB0.out.trans (hb1.mono HB0.out.size))
  have HT1 := Lib.hid (HT0.out.later hb1 HT0.out.lt)
  have HSK1 := Lib.hid (HSK.out.later hb1)
  have HS1 := Lib.hid hs1
  have HMX := Lib.hid hm1
  clear hb1 hs1 hm1 HM0 HO0 HB0 HT0 HSK x0 x1 x2 x3 x4 z0 z1 z2 z3 z4 hX
  have HL45 := Lib.hid (bytesM_len ⟨g, a, r, t, s⟩)
  rw [HL45.out] at HS1 ⊢
  have HOWN := Lib.hid (own_none w1)
  have hba : Below w1.heap.size w1 (w1.alloc (.cells #[] 5)) := (Below.refl _ _).alloc (Nat.le_refl _) _
  have HSA := Lib.hid (HS1.out.later hba)
  have HBA := Lib.hid hba
  clear hba
  go_wp2_with (at_builtin; refine wpList_append_row rfl _ _ rfl _ _ [] rfl HOWN.out _ _ _ (bytesM ⟨g, a, r, t, s⟩) rfl HSA.out (by omega) ?_)
  intro v' w2 hr hc2 hk2
  try rw [List.nil_append] at hr
  obtain ⟨p2, c2, rfl, _⟩ := hr.sl
  have hb2 : Below w1.heap.size w1 w2 := hc2.below HBA.out HBA.out.size fun j hj => by cases hj; exact Nat.le_refl _
  have HR2 := Lib.hid hr
  have HS2 := Lib.hid (HS1.out.later hb2)
  have HM2 := Lib.hid (block_later HM1.out hb2)
  have HO2 := Lib.hid (block_later HO1.out hb2)
  have HB2 := Lib.hid (HB1.out.trans (hb2.mono HB1.out.size))
  have HT2 := Lib.hid (HT1.out.later hb2 HT1.out.lt)
  have HSK2 := Lib.hid (HSK1.out.later hb2)
  have HK2 : Hid (∀ j, (Value.slice p2 45 c2).ownBlock = some j → w1.heap.size ≤ j) := Lib.hid fun j hj => by
    rcases hk2 j hj with h | h
    · cases h; exact Nat.le_refl _
    · first | omega | (simp at h; omega)
  have HBX := Lib.hid hb2
  clear hr hc2 hk2 hb2 HSA HBA HOWN
  go_wp2_with (at_builtin; refine wpList_append_row rfl _ _ rfl _ _ (bytesM ⟨g, a, r, t, s⟩) rfl HR2.out _ _ _ K rfl HSK2.out (by omega) ?_)
  intro v' w3 hr hc3 hk3
  obtain ⟨p3, c3, rfl, hm3, hs3, _⟩ := hr.sl
  have hch : Chg (fun j => w1.heap.size ≤ j) w2 w3 := hc3.mono fun j _ hj => HK2.out j hj
  have hb12 := HBX.out
  have HLT : Hid (X < w1.heap.size ∧ X + 1 < w1.heap.size) := Lib.hid ⟨block_lt HM1.out, block_lt HO1.out⟩
  have HM3 := Lib.hid ((hch.block X (block_lt HM2.out) (by have := HLT.out; omega)).trans HM2.out)
  have HO3 := Lib.hid ((hch.block (X + 1) (block_lt HO2.out) (by have := HLT.out; omega)).trans HO2.out)
  have hb3 : Below w1.heap.size w1 w3 := hch.below (B := w1.heap.size) hb12 hb12.size fun j hj => hj
  have HB3 := Lib.hid (HB1.out.trans (hb3.mono HB1.out.size))
  have HT3 := Lib.hid (HT1.out.later hb3 HT1.out.lt)
  have HS3 := Lib.hid (HS1.out.later hb3)
  have HD3 := Lib.hid hs3
  have HMM3 := Lib.hid hm3
  clear hr hc3 hk3 hch hb3 hs3 hm3 HM2 HO2 HB2 HT2 HS2 HSK2 HR2 HK2 HM1 HO1 HB1 HT1 HSK1 HS1
  go_wp2_with fail
  refine (mdec_any _ _ _ (bytesM ⟨g, a, r, t, s⟩ ++ K) _ HD3.out HMM3.out (by omega) HT3.out).mono ?_
  rw [HDE.out, HDV.out]
  rintro e w4 ⟨rfl, hb4⟩
  have hbn := ((Below.refl w4.heap.size w4).alloc (Nat.le_refl _) (.cells #[.int .u64 (g : Int), .int .u8 (a : Int), .int .i64 (sgn r), .int .i64 (sgn t), .int .i64 (sgn s)] 24))
  have HY4 := Lib.hid (alloc_block w4 (.cells #[.int .u64 (g : Int), .int .u8 (a : Int), .int .i64 (sgn r), .int .i64 (sgn t), .int .i64 (sgn s)] 24))
  have hbb := hb4.trans (hbn.mono hb4.size)
  have HM4 := Lib.hid (block_later HM3.out hbb)
  have HO4 := Lib.hid (block_later HO3.out hbb)
  have HB4 := Lib.hid (HB3.out.trans (hbb.mono HB3.out.size))
  have HT4 := Lib.hid (HT3.out.later hbb HT3.out.lt)
  have HS4 := Lib.hid (HS3.out.later hbb)
  clear hb4 hbn hbb HM3 HO3 HB3 HT3 HS3 HD3 HMM3
  go_upto_region 6 with (fail)
  generalize w4.alloc (.cells #[.int .u64 (g : Int), .int .u8 (a : Int), .int .i64 (sgn r), .int .i64 (sgn t), .int .i64 (sgn s)] 24) = W4 at *
  generalize w4.heap.size = Y1 at *
  obtain ⟨x0, x1, x2, x3, x4⟩ := mcells HM4.out
  obtain ⟨y0, y1, y2, y3, y4⟩ := mcells HY4.out
  obtain ⟨z0, z1, z2, z3, z4⟩ := mcells HO4.out
  go_wp2_with fail
  clear x0 x1 x2 x3 x4 y0 y1 y2 y3 y4 z0 z1 z2 z3 z4
  refine (HENO.out _ HT4.out).mono ?_
  rw [HEO.out.1, HEO.out.2]
  rintro e w5 ⟨p5, c5, rfl, hs5, hb5, _, hm5⟩
  have HM5 := Lib.hid (block_later HM4.out hb5)
  have HO5 := Lib.hid (block_later HO4.out hb5)
  have HB5 := Lib.hid (HB4.out.trans (hb5.mono HB4.out.size))
  have HT5 := Lib.hid (HT4.out.later hb5 HT4.out.lt)
  have HS5 := Lib.hid (HS4.out.later hb5)
  have HC5 := Lib.hid hs5
  have HMX5 := Lib.hid hm5
  clear hs5 hb5 hm5 HM4 HO4 HB4 HT4 HS4 HY4
  obtain ⟨x0, x1, x2, x3, x4⟩ := mcells HM5.out
  obtain ⟨z0, z1, z2, z3, z4⟩ := mcells HO5.out
  go_wp2_with fail
  refine (works16 _ HT5.out).mono ?_
  rintro e w9 ⟨rfl, h6⟩
  have HF := Lib.hid (HB5.out.trans (h6.mono HB5.out.size))
  clear h6
  go_wp2_with fail
  go_ret
  exact ⟨rfl, HF.out⟩
set_option maxHeartbeats 2000000 in
theorem mback_young (g a r t s g2 a2 r2 t2 s2 : Nat) (hm : Mv.ok ⟨g, a, r, t, s⟩) (ho : Mv.ok ⟨g2, a2, r2, t2, s2⟩) (p : Option Addr) (n c : Nat) (L : List Nat) (w : World) (hT : Tab w) (hS : Sl w p n c L) (hc : c ≤ maxLen) (hgood : goodM ⟨g, a, r, t, s⟩ = true) (hgo : goodM ⟨g2, a2, r2, t2, s2⟩ = true) (hge : ¬ g ≤ g2) :
    Calls Tryd.prog 5 #[.agg #[.int .u64 (g : Int), .int .u8 (a : Int), .int .i64 (sgn r), .int .i64 (sgn t), .int .i64 (sgn s)], .slice p n c, .agg #[.int .u64 (g2 : Int), .int .u8 (a2 : Int), .int .i64 (sgn r2), .int .i64 (sgn t2), .int .i64 (sgn s2)]] w fun e w' => e = .returned (.bool true) ∧ Below w.heap.size w w' := by
  obtain ⟨k, hk, hkn, hk50⟩ : ∃ k : Nat, min (n : Int) 50 = (k : Int) ∧ k ≤ n ∧ k ≤ 50 := mmin_of n 50
  have hcap := hS.cap
  have hc63 : c ≤ 9223372036854775807 := hc
  have henc : ∀ w', Tab w' → Calls Tryd.prog 7 #[.agg #[.int .u64 (g : Int), .int .u8 (a : Int), .int .i64 (sgn r), .int .i64 (sgn t), .int .i64 (sgn s)]] w' (GivesE w' (encL ⟨g, a, r, t, s⟩) (encE ⟨g, a, r, t, s⟩)) := fun w' hT' => menc_any ⟨g, a, r, t, s⟩ hm w' hT'
  have heno : ∀ w', Tab w' → Calls Tryd.prog 7 #[.agg #[.int .u64 (g2 : Int), .int .u8 (a2 : Int), .int .i64 (sgn r2), .int .i64 (sgn t2), .int .i64 (sgn s2)]] w' (GivesE w' (encL ⟨g2, a2, r2, t2, s2⟩) (encE ⟨g2, a2, r2, t2, s2⟩)) := fun w' hT' => menc_any ⟨g2, a2, r2, t2, s2⟩ ho w' hT'
  obtain ⟨hb0, hxo⟩ := mtwo w #[.int .u64 (g : Int), .int .u8 (a : Int), .int .i64 (sgn r), .int .i64 (sgn t), .int .i64 (sgn s)] #[.int .u64 (g2 : Int), .int .u8 (a2 : Int), .int .i64 (sgn r2), .int .i64 (sgn t2), .int .i64 (sgn s2)] 24 24
  have hxm := block_later (alloc_block w (.cells #[.int .u64 (g : Int), .int .u8 (a : Int), .int .i64 (sgn r), .int .i64 (sgn t), .int .i64 (sgn s)] 24)) ((Below.refl _ _).alloc (Nat.le_refl _) (.cells #[.int .u64 (g2 : Int), .int .u8 (a2 : Int), .int .i64 (sgn r2), .int .i64 (sgn t2), .int .i64 (sgn s2)] 24))
  have HB0 := Lib.hid hb0
  have HT0 := Lib.hid (hT.later hb0 hT.lt)
  have HSK := Lib.hid ((hS.take k hkn).later hb0)
  have HO0 := Lib.hid hxo
  have HM0 := Lib.hid hxm
  generalize L.take k = K at *
  obtain ⟨X, hX⟩ : ∃ X, w.heap.size = X := ⟨_, rfl⟩
  rw [hX] at HO0 HM0
  have HENC := Lib.hid henc
  have HENO := Lib.hid heno
  clear hb0 hxo hxm hT hS henc heno
  obtain ⟨x0, x1, x2, x3, x4⟩ := mcells HM0.out
  obtain ⟨z0, z1, z2, z3, z4⟩ := mcells HO0.out
  have HEN := Lib.hid (encL_good hgood)
  have HDE := Lib.hid (dE_bytes hm hgood K)
  have HDV := Lib.hid (dV_bytes hm hgood K)
  have HEO := Lib.hid (encL_good hgo)
  have HP := pick_back hm ho hgood (fun _ => by show g2 < g; omega)
  rw [(encL_good hgo).1] at HP
  have HPA := Lib.hid HP.1
  have HPB := Lib.hid HP.2
  have HLO := Lib.hid (bytesM_len ⟨g2, a2, r2, t2, s2⟩)
  have hdec : decide (g ≤ g2) = false := decide_eq_false hge
  clear hgood hgo HP
  go_enter Tryd.func5, Tryd.ntmps5
  go_wp2_with fail
  refine (HENC.out _ HT0.out).mono ?_
  rw [HEN.out.1, HEN.out.2]
  rintro e w1 ⟨p1, c1, rfl, hs1, hb1, _, hm1⟩
  have HM1 := Lib.hid (block_later HM0.out hb1)
  have HO1 := Lib.hid (block_later HO0.out hb1)
  have HB1 := Lib.hid (HB0.out.trans (hb1.mono HB0.out.size))
  have HT1 := Lib.hid (HT0.out.later hb1 HT0.out.lt)
  have HSK1 := Lib.hid (HSK.out.later hb1)
  have HS1 := Lib.hid hs1
  have HMX := Lib.hid hm1
  clear hb1 hs1 hm1 HM0 HO0 HB0 HT0 HSK x0 x1 x2 x3 x4 z0 z1 z2 z3 z4 hX
  have HL45 := Lib.hid (bytesM_len ⟨g, a, r, t, s⟩)
  rw [HL45.out] at HS1 ⊢
  have HOWN := Lib.hid (own_none w1)
  have hba : Below w1.heap.size w1 (w1.alloc (.cells #[] 5)) := (Below.refl _ _).alloc (Nat.le_refl _) _
  have HSA := Lib.hid (HS1.out.later hba)
  have HBA := Lib.hid hba
  clear hba
  go_wp2_with (at_builtin; refine wpList_append_row rfl _ _ rfl _ _ [] rfl HOWN.out _ _ _ (bytesM ⟨g, a, r, t, s⟩) rfl HSA.out (by omega) ?_)
  intro v' w2 hr hc2 hk2
  try rw [List.nil_append] at hr
  obtain ⟨p2, c2, rfl, _⟩ := hr.sl
  have hb2 : Below w1.heap.size w1 w2 := hc2.below HBA.out HBA.out.size fun j hj => by cases hj; exact Nat.le_refl _
  have HR2 := Lib.hid hr
  have HS2 := Lib.hid (HS1.out.later hb2)
  have HM2 := Lib.hid (block_later HM1.out hb2)
  have HO2 := Lib.hid (block_later HO1.out hb2)
  have HB2 := Lib.hid (HB1.out.trans (hb2.mono HB1.out.size))
  have HT2 := Lib.hid (HT1.out.later hb2 HT1.out.lt)
  have HSK2 := Lib.hid (HSK1.out.later hb2)
  have HK2 : Hid (∀ j, (Value.slice p2 45 c2).ownBlock = some j → w1.heap.size ≤ j) := Lib.hid fun j hj => by
    rcases hk2 j hj with h | h
    · cases h; exact Nat.le_refl _
    · first | omega | (simp at h; omega)
  have HBX := Lib.hid hb2
  clear hr hc2 hk2 hb2 HSA HBA HOWN
  go_wp2_with (at_builtin; refine wpList_append_row rfl _ _ rfl _ _ (bytesM ⟨g, a, r, t, s⟩) rfl HR2.out _ _ _ K rfl HSK2.out (by omega) ?_)
  intro v' w3 hr hc3 hk3
  obtain ⟨p3, c3, rfl, hm3, hs3, _⟩ := hr.sl
  have hch : Chg (fun j => w1.heap.size ≤ j) w2 w3 := hc3.mono fun j _ hj => HK2.out j hj
  have hb12 := HBX.out
  have HLT : Hid (X < w1.heap.size ∧ X + 1 < w1.heap.size) := Lib.hid ⟨block_lt HM1.out, block_lt HO1.out⟩
  have HM3 := Lib.hid ((hch.block X (block_lt HM2.out) (by have := HLT.out; omega)).trans HM2.out)
  have HO3 := Lib.hid ((hch.block (X + 1) (block_lt HO2.out) (by have := HLT.out; omega)).trans HO2.out)
  have hb3 : Below w1.heap.size w1 w3 := hch.below (B := w1.heap.size) hb12 hb12.size fun j hj => hj
  have HB3 := Lib.hid (HB1.out.trans (hb3.mono HB1.out.size))
  have HT3 := Lib.hid (HT1.out.later hb3 HT1.out.lt)
  have HS3 := Lib.hid (HS1.out.later hb3)
  have HD3 := Lib.hid hs3
  have HMM3 := Lib.hid hm3
  clear hr hc3 hk3 hch hb3 hs3 hm3 HM2 HO2 HB2 HT2 HS2 HSK2 HR2 HK2 HM1 HO1 HB1 HT1 HSK1 HS1
  go_wp2_with fail
  refine (mdec_any _ _ _ (bytesM ⟨g, a, r, t, s⟩ ++ K) _ HD3.out HMM3.out (by omega) HT3.out).mono ?_
  rw [HDE.out, HDV.out]
  rintro e w4 ⟨rfl, hb4⟩
  have hbn := ((Below.refl w4.heap.size w4).alloc (Nat.le_refl _) (.cells #[.int .u64 (g : Int), .int .u8 (a : Int), .int .i64 (sgn r), .int .i64 (sgn t), .int .i64 (sgn s)] 24))
  have HY4 := Lib.hid (alloc_block w4 (.cells #[.int .u64 (g : Int), .int .u8 (a : Int), .int .i64 (sgn r), .int .i64 (sgn t), .int .i64 (sgn s)] 24))
  have hbb := hb4.trans (hbn.mono hb4.size)
  have HM4 := Lib.hid (block_later HM3.out hbb)
  have HO4 := Lib.hid (block_later HO3.out hbb)
  have HB4 := Lib.hid (HB3.out.trans (hbb.mono HB3.out.size))
  have HT4 := Lib.hid (HT3.out.later hbb HT3.out.lt)
  have HS4 := Lib.hid (HS3.out.later hbb)
  clear hb4 hbn hbb HM3 HO3 HB3 HT3 HS3 HD3 HMM3
  go_upto_region 6 with (fail)
  generalize w4.alloc (.cells #[.int .u64 (g : Int), .int .u8 (a : Int), .int .i64 (sgn r), .int .i64 (sgn t), .int .i64 (sgn s)] 24) = W4 at *
  generalize w4.heap.size = Y1 at *
  obtain ⟨x0, x1, x2, x3, x4⟩ := mcells HM4.out
  obtain ⟨y0, y1, y2, y3, y4⟩ := mcells HY4.out
  obtain ⟨z0, z1, z2, z3, z4⟩ := mcells HO4.out
  go_wp2_with fail
  clear x0 x1 x2 x3 x4 y0 y1 y2 y3 y4 z0 z1 z2 z3 z4
  refine (HENO.out _ HT4.out).mono ?_
  rw [HEO.out.1, HEO.out.2]
  rintro e w5 ⟨p5, c5, rfl, hs5, hb5, _, hm5⟩
  have HM5 := Lib.hid (block_later HM4.out hb5)
  have HO5 := Lib.hid (block_later HO4.out hb5)
  have HB5 := Lib.hid (HB4.out.trans (hb5.mono HB4.out.size))
  have HT5 := Lib.hid (HT4.out.later hb5 HT4.out.lt)
  have HS5 := Lib.hid (HS4.out.later hb5)
  have HC5 := Lib.hid hs5
  have HMX5 := Lib.hid hm5
  clear hs5 hb5 hm5 HM4 HO4 HB4 HT4 HS4 HY4
  obtain ⟨x0, x1, x2, x3, x4⟩ := mcells HM5.out
  obtain ⟨z0, z1, z2, z3, z4⟩ := mcells HO5.out
  generalize (bytesM ⟨g2, a2, r2, t2, s2⟩).length = lo at *
  go_wp2_with fail
  clear x0 x1 x2 x3 x4 z0 z1 z2 z3 z4
  refine (mpick_any _ _ _ _ _ _ (bytesM ⟨g, a, r, t, s⟩) (bytesM ⟨g2, a2, r2, t2, s2⟩) _ HS5.out HC5.out HMX.out HMX5.out (by omega) (by have := HLO.out; omega) HT5.out).mono ?_
  rw [HPA.out.1, HPA.out.2.1, HPA.out.2.2]
  rintro e w6 ⟨rfl, hb6⟩
  have hbn := ((Below.refl w6.heap.size w6).alloc (Nat.le_refl _) (.cells #[.int .u64 (g : Int), .int .u8 (a : Int), .int .i64 (sgn r), .int .i64 (sgn t), .int .i64 (sgn s)] 24))
  have HY6 := Lib.hid (alloc_block w6 (.cells #[.int .u64 (g : Int), .int .u8 (a : Int), .int .i64 (sgn r), .int .i64 (sgn t), .int .i64 (sgn s)] 24))
  have hbb := hb6.trans (hbn.mono hb6.size)
  have HM6 := Lib.hid (block_later HM5.out hbb)
  have HB6 := Lib.hid (HB5.out.trans (hbb.mono HB5.out.size))
  have HT6 := Lib.hid (HT5.out.later hbb HT5.out.lt)
  have HS6 := Lib.hid (HS5.out.later hbb)
  have HC6 := Lib.hid (HC5.out.later hbb)
  clear hb6 hbn hbb HM5 HO5 HB5 HT5 HS5 HC5
  go_wp2_with fail
  generalize w6.alloc (.cells #[.int .u64 (g : Int), .int .u8 (a : Int), .int .i64 (sgn r), .int .i64 (sgn t), .int .i64 (sgn s)] 24) = W6 at *
  generalize w6.heap.size = Y6 at *
  refine (mpick_any _ _ _ _ _ _ (bytesM ⟨g2, a2, r2, t2, s2⟩) (bytesM ⟨g, a, r, t, s⟩) _ HC6.out HS6.out HMX5.out HMX.out (by have := HLO.out; omega) (by omega) HT6.out).mono ?_
  rw [HPB.out.1, HPB.out.2.1, HPB.out.2.2]
  rintro e w7 ⟨rfl, hb7⟩
  have hbn := ((Below.refl w7.heap.size w7).alloc (Nat.le_refl _) (.cells #[.int .u64 (g : Int), .int .u8 (a : Int), .int .i64 (sgn r), .int .i64 (sgn t), .int .i64 (sgn s)] 24))
  have HY7 := Lib.hid (alloc_block w7 (.cells #[.int .u64 (g : Int), .int .u8 (a : Int), .int .i64 (sgn r), .int .i64 (sgn t), .int .i64 (sgn s)] 24))
  have hbb := hb7.trans (hbn.mono hb7.size)
  have HM7 := Lib.hid (block_later HM6.out hbb)
  have HY67 := Lib.hid (block_later HY6.out hbb)
  have HB7 := Lib.hid (HB6.out.trans (hbb.mono HB6.out.size))
  have HT7 := Lib.hid (HT6.out.later hbb HT6.out.lt)
  clear hb7 hbn hbb HM6 HY6 HB6 HT6 HS6 HC6
  go_upto_region 13 with (fail)
  generalize w7.alloc (.cells #[.int .u64 (g : Int), .int .u8 (a : Int), .int .i64 (sgn r), .int .i64 (sgn t), .int .i64 (sgn s)] 24) = W7 at *
  generalize w7.heap.size = Y7 at *
  obtain ⟨x0, x1, x2, x3, x4⟩ := mcells HM7.out
  obtain ⟨y0, y1, y2, y3, y4⟩ := mcells HY7.out
  obtain ⟨z0, z1, z2, z3, z4⟩ := mcells HY67.out
  go_wp2_with fail
  refine (works16 _ HT7.out).mono ?_
  rintro e w9 ⟨rfl, h6⟩
  have HF := Lib.hid (HB7.out.trans (h6.mono HB7.out.size))
  clear h6
  go_wp2_with fail
  go_ret
  exact ⟨rfl, HF.out⟩
set_option maxHeartbeats 2000000 in
theorem mback_none (g a r t s g2 a2 r2 t2 s2 : Nat) (hm : Mv.ok ⟨g, a, r, t, s⟩) (ho : Mv.ok ⟨g2, a2, r2, t2, s2⟩) (p : Option Addr) (n c : Nat) (L : List Nat) (w : World) (hT : Tab w) (hS : Sl w p n c L) (hc : c ≤ maxLen) (hgood : goodM ⟨g, a, r, t, s⟩ = true) (hgo : goodM ⟨g2, a2, r2, t2, s2⟩ = false) :
    Calls Tryd.prog 5 #[.agg #[.int .u64 (g : Int), .int .u8 (a : Int), .int .i64 (sgn r), .int .i64 (sgn t), .int .i64 (sgn s)], .slice p n c, .agg #[.int .u64 (g2 : Int), .int .u8 (a2 : Int), .int .i64 (sgn r2), .int .i64 (sgn t2), .int .i64 (sgn s2)]] w fun e w' => e = .returned (.bool true) ∧ Below w.heap.size w w' := by
  obtain ⟨k, hk, hkn, hk50⟩ : ∃ k : Nat, min (n : Int) 50 = (k : Int) ∧ k ≤ n ∧ k ≤ 50 := mmin_of n 50
  have hcap := hS.cap
  have hc63 : c ≤ 9223372036854775807 := hc
  have henc : ∀ w', Tab w' → Calls Tryd.prog 7 #[.agg #[.int .u64 (g : Int), .int .u8 (a : Int), .int .i64 (sgn r), .int .i64 (sgn t), .int .i64 (sgn s)]] w' (GivesE w' (encL ⟨g, a, r, t, s⟩) (encE ⟨g, a, r, t, s⟩)) := fun w' hT' => menc_any ⟨g, a, r, t, s⟩ hm w' hT'
  have heno : ∀ w', Tab w' → Calls Tryd.prog 7 #[.agg #[.int .u64 (g2 : Int), .int .u8 (a2 : Int), .int .i64 (sgn r2), .int .i64 (sgn t2), .int .i64 (sgn s2)]] w' (GivesE w' (encL ⟨g2, a2, r2, t2, s2⟩) (encE ⟨g2, a2, r2, t2, s2⟩)) := fun w' hT' => menc_any ⟨g2, a2, r2, t2, s2⟩ ho w' hT'
  obtain ⟨hb0, hxo⟩ := mtwo w #[.int .u64 (g : Int), .int .u8 (a : Int), .int .i64 (sgn r), .int .i64 (sgn t), .int .i64 (sgn s)] #[.int .u64 (g2 : Int), .int .u8 (a2 : Int), .int .i64 (sgn r2), .int .i64 (sgn t2), .int .i64 (sgn s2)] 24 24
  have hxm := block_later (alloc_block w (.cells #[.int .u64 (g : Int), .int .u8 (a : Int), .int .i64 (sgn r), .int .i64 (sgn t), .int .i64 (sgn s)] 24)) ((Below.refl _ _).alloc (Nat.le_refl _) (.cells #[.int .u64 (g2 : Int), .int .u8 (a2 : Int), .int .i64 (sgn r2), .int .i64 (sgn t2), .int .i64 (sgn s2)] 24))
  have HB0 := Lib.hid hb0
  have HT0 := Lib.hid (hT.later hb0 hT.lt)
  have HSK := Lib.hid ((hS.take k hkn).later hb0)
  have HO0 := Lib.hid hxo
  have HM0 := Lib.hid hxm
  generalize L.take k = K at *
  obtain ⟨X, hX⟩ : ∃ X, w.heap.size = X := ⟨_, rfl⟩
  rw [hX] at HO0 HM0
  have HENC := Lib.hid henc
  have HENO := Lib.hid heno
  clear hb0 hxo hxm hT hS henc heno
  obtain ⟨x0, x1, x2, x3, x4⟩ := mcells HM0.out
  obtain ⟨z0, z1, z2, z3, z4⟩ := mcells HO0.out
  have HEN := Lib.hid (encL_good hgood)
  have HDE := Lib.hid (dE_bytes hm hgood K)
  have HDV := Lib.hid (dV_bytes hm hgood K)
  have HEO := Lib.hid (encL_bad hgo)
  have HP := pick_back hm ho hgood (fun h => by rw [hgo] at h; cases h)
  rw [(encL_bad hgo).1] at HP
  have HPA := Lib.hid HP.1
  have HPB := Lib.hid HP.2
  clear hgood hgo HP
  go_enter Tryd.func5, Tryd.ntmps5
  go_wp2_with fail
  refine (HENC.out _ HT0.out).mono ?_
  rw [HEN.out.1, HEN.out.2]
  rintro e w1 ⟨p1, c1, rfl, hs1, hb1, _, hm1⟩
  have HM1 := Lib.hid (block_later HM0.out hb1)
  have HO1 := Lib.hid (block_later HO0.out hb1)
  have HB1 := Lib.hid (HB0.out.trans (hb1.mono HB0.out.size))
  have HT1 := Lib.hid (HT0.out.later hb1 HT0.out.lt)
  have HSK1 := Lib.hid (HSK.out.later hb1)
  have HS1 := Lib.hid hs1
  have HMX := Lib.hid hm1
  clear hb1 hs1 hm1 HM0 HO0 HB0 HT0 HSK x0 x1 x2 x3 x4 z0 z1 z2 z3 z4 hX
  have HL45 := Lib.hid (bytesM_len ⟨g, a, r, t, s⟩)
  rw [HL45.out] at HS1 ⊢
  have HOWN := Lib.hid (own_none w1)
  have hba : Below w1.heap.size w1 (w1.alloc (.cells #[] 5)) := (Below.refl _ _).alloc (Nat.le_refl _) _
  have HSA := Lib.hid (HS1.out.later hba)
  have HBA := Lib.hid hba
  clear hba
  go_wp2_with (at_builtin; refine wpList_append_row rfl _ _ rfl _ _ [] rfl HOWN.out _ _ _ (bytesM ⟨g, a, r, t, s⟩) rfl HSA.out (by omega) ?_)
  intro v' w2 hr hc2 hk2
  try rw [List.nil_append] at hr
  obtain ⟨p2, c2, rfl, _⟩ := hr.sl
  have hb2 : Below w1.heap.size w1 w2 := hc2.below HBA.out HBA.out.size fun j hj => by cases hj; exact Nat.le_refl _
  have HR2 := Lib.hid hr
  have HS2 := Lib.hid (HS1.out.later hb2)
  have HM2 := Lib.hid (block_later HM1.out hb2)
  have HO2 := Lib.hid (block_later HO1.out hb2)
  have HB2 := Lib.hid (HB1.out.trans (hb2.mono HB1.out.size))
  have HT2 := Lib.hid (HT1.out.later hb2 HT1.out.lt)
  have HSK2 := Lib.hid (HSK1.out.later hb2)
  have HK2 : Hid (∀ j, (Value.slice p2 45 c2).ownBlock = some j → w1.heap.size ≤ j) := Lib.hid fun j hj => by
    rcases hk2 j hj with h | h
    · cases h; exact Nat.le_refl _
    · first | omega | (simp at h; omega)
  have HBX := Lib.hid hb2
  clear hr hc2 hk2 hb2 HSA HBA HOWN
  go_wp2_with (at_builtin; refine wpList_append_row rfl _ _ rfl _ _ (bytesM ⟨g, a, r, t, s⟩) rfl HR2.out _ _ _ K rfl HSK2.out (by omega) ?_)
  intro v' w3 hr hc3 hk3
  obtain ⟨p3, c3, rfl, hm3, hs3, _⟩ := hr.sl
  have hch : Chg (fun j => w1.heap.size ≤ j) w2 w3 := hc3.mono fun j _ hj => HK2.out j hj
  have hb12 := HBX.out
  have HLT : Hid (X < w1.heap.size ∧ X + 1 < w1.heap.size) := Lib.hid ⟨block_lt HM1.out, block_lt HO1.out⟩
  have HM3 := Lib.hid ((hch.block X (block_lt HM2.out) (by have := HLT.out; omega)).trans HM2.out)
  have HO3 := Lib.hid ((hch.block (X + 1) (block_lt HO2.out) (by have := HLT.out; omega)).trans HO2.out)
  have hb3 : Below w1.heap.size w1 w3 := hch.below (B := w1.heap.size) hb12 hb12.size fun j hj => hj
  have HB3 := Lib.hid (HB1.out.trans (hb3.mono HB1.out.size))
  have HT3 := Lib.hid (HT1.out.later hb3 HT1.out.lt)
  have HS3 := Lib.hid (HS1.out.later hb3)
  have HD3 := Lib.hid hs3
  have HMM3 := Lib.hid hm3
  clear hr hc3 hk3 hch hb3 hs3 hm3 HM2 HO2 HB2 HT2 HS2 HSK2 HR2 HK2 HM1 HO1 HB1 HT1 HSK1 HS1
  go_wp2_with fail
  refine (mdec_any _ _ _ (bytesM ⟨g, a, r, t, s⟩ ++ K) _ HD3.out HMM3.out (by omega) HT3.out).mono ?_
  rw [HDE.out, HDV.out]
  rintro e w4 ⟨rfl, hb4⟩
  have hbn := ((Below.refl w4.heap.size w4).alloc (Nat.le_refl _) (.cells #[.int .u64 (g : Int), .int .u8 (a : Int), .int .i64 (sgn r), .int .i64 (sgn t), .int .i64 (sgn s)] 24))
  have HY4 := Lib.hid (alloc_block w4 (.cells #[.int .u64 (g : Int), .int .u8 (a : Int), .int .i64 (sgn r), .int .i64 (sgn t), .int .i64 (sgn s)] 24))
  have hbb := hb4.trans (hbn.mono hb4.size)
  have HM4 := Lib.hid (block_later HM3.out hbb)
  have HO4 := Lib.hid (block_later HO3.out hbb)
  have HB4 := Lib.hid (HB3.out.trans (hbb.mono HB3.out.size))
  have HT4 := Lib.hid (HT3.out.later hbb HT3.out.lt)
  have HS4 := Lib.hid (HS3.out.later hbb)
  clear hb4 hbn hbb HM3 HO3 HB3 HT3 HS3 HD3 HMM3
  go_upto_region 6 with (fail)
  generalize w4.alloc (.cells #[.int .u64 (g : Int), .int .u8 (a : Int), .int .i64 (sgn r), .int .i64 (sgn t), .int .i64 (sgn s)] 24) = W4 at *
  generalize w4.heap.size = Y1 at *
  obtain ⟨x0, x1, x2, x3, x4⟩ := mcells HM4.out
  obtain ⟨y0, y1, y2, y3, y4⟩ := mcells HY4.out
  obtain ⟨z0, z1, z2, z3, z4⟩ := mcells HO4.out
  go_wp2_with fail
  clear x0 x1 x2 x3 x4 y0 y1 y2 y3 y4 z0 z1 z2 z3 z4
  refine (HENO.out _ HT4.out).mono ?_
  rw [HEO.out.1, HEO.out.2]
  rintro e w5 ⟨p5, c5, rfl, hs5, hb5, _, hm5⟩
  have HM5 := Lib.hid (block_later HM4.out hb5)
  have HO5 := Lib.hid (block_later HO4.out hb5)
  have HB5 := Lib.hid (HB4.out.trans (hb5.mono HB4.out.size))
  have HT5 := Lib.hid (HT4.out.later hb5 HT4.out.lt)
  have HS5 := Lib.hid (HS4.out.later hb5)
  have HC5 := Lib.hid hs5
  have HMX5 := Lib.hid hm5
  clear hs5 hb5 hm5 HM4 HO4 HB4 HT4 HS4 HY4
  obtain ⟨x0, x1, x2, x3, x4⟩ := mcells HM5.out
  obtain ⟨z0, z1, z2, z3, z4⟩ := mcells HO5.out
  go_wp2_with fail
  clear x0 x1 x2 x3 x4 z0 z1 z2 z3 z4
  refine (mpick_any _ _ _ _ _ _ (bytesM ⟨g, a, r, t, s⟩) [] _ HS5.out HC5.out HMX.out HMX5.out (by omega) (by show (0 : Nat) ≤ 1000000; omega) HT5.out).mono ?_
  rw [HPA.out.1, HPA.out.2.1, HPA.out.2.2]
  rintro e w6 ⟨rfl, hb6⟩
  have hbn := ((Below.refl w6.heap.size w6).alloc (Nat.le_refl _) (.cells #[.int .u64 (g : Int), .int .u8 (a : Int), .int .i64 (sgn r), .int .i64 (sgn t), .int .i64 (sgn s)] 24))
  have HY6 := Lib.hid (alloc_block w6 (.cells #[.int .u64 (g : Int), .int .u8 (a : Int), .int .i64 (sgn r), .int .i64 (sgn t), .int .i64 (sgn s)] 24))
  have hbb := hb6.trans (hbn.mono hb6.size)
  have HM6 := Lib.hid (block_later HM5.out hbb)
  have HB6 := Lib.hid (HB5.out.trans (hbb.mono HB5.out.size))
  have HT6 := Lib.hid (HT5.out.later hbb HT5.out.lt)
  have HS6 := Lib.hid (HS5.out.later hbb)
  have HC6 := Lib.hid (HC5.out.later hbb)
  clear hb6 hbn hbb HM5 HO5 HB5 HT5 HS5 HC5
  go_wp2_with fail
  generalize w6.alloc (.cells #[.int .u64 (g : Int), .int .u8 (a : Int), .int .i64 (sgn r), .int .i64 (sgn t), .int .i64 (sgn s)] 24) = W6 at *
  generalize w6.heap.size = Y6 at *
  refine (mpick_any _ _ _ _ _ _ [] (bytesM ⟨g, a, r, t, s⟩) _ HC6.out HS6.out HMX5.out HMX.out (by show (0 : Nat) ≤ 1000000; omega) (by omega) HT6.out).mono ?_
  rw [HPB.out.1, HPB.out.2.1, HPB.out.2.2]
  rintro e w7 ⟨rfl, hb7⟩
  have hbn := ((Below.refl w7.heap.size w7).alloc (Nat.le_refl _) (.cells #[.int .u64 (g : Int), .int .u8 (a : Int), .int .i64 (sgn r), .int .i64 (sgn t), .int .i64 (sgn s)] 24))
  have HY7 := Lib.hid (alloc_block w7 (.cells #[.int .u64 (g : Int), .int .u8 (a : Int), .int .i64 (sgn r), .int .i64 (sgn t), .int .i64 (sgn s)] 24))
  have hbb := hb7.trans (hbn.mono hb7.size)
  have HM7 := Lib.hid (block_later HM6.out hbb)
  have HY67 := Lib.hid (block_later HY6.out hbb)
  have HB7 := Lib.hid (HB6.out.trans (hbb.mono HB6.out.size))
  have HT7 := Lib.hid (HT6.out.later hbb HT6.out.lt)
  clear hb7 hbn hbb HM6 HY6 HB6 HT6 HS6 HC6
  go_upto_region 13 with (fail)
  generalize w7.alloc (.cells #[.int .u64 (g : Int), .int .u8 (a : Int), .int .i64 (sgn r), .int .i64 (sgn t), .int .i64 (sgn s)] 24) = W7 at *
  generalize w7.heap.size = Y7 at *
  obtain ⟨x0, x1, x2, x3, x4⟩ := mcells HM7.out
  obtain ⟨y0, y1, y2, y3, y4⟩ := mcells HY7.out
  obtain ⟨z0, z1, z2, z3, z4⟩ := mcells HY67.out
  go_wp2_with fail
  refine (works16 _ HT7.out).mono ?_
  rintro e w9 ⟨rfl, h6⟩
  have HF := Lib.hid (HB7.out.trans (h6.mono HB7.out.size))
  clear h6
  go_wp2_with fail
  go_ret
  exact ⟨rfl, HF.out⟩
theorem law_mback (m o : Mv) (hm : m.ok) (ho : o.ok) (p : Option Addr) (n c : Nat) (L : List Nat) (w : World) (hT : Tab w) (hS : Sl w p n c L) (hc : c ≤ maxLen) :
    Calls Tryd.prog 5 #[.agg #[.int .u64 ((m.g : Nat) : Int), .int .u8 ((m.a : Nat) : Int), .int .i64 (sgn m.r), .int .i64 (sgn m.t), .int .i64 (sgn m.s)], .slice p n c, .agg #[.int .u64 ((o.g : Nat) : Int), .int .u8 ((o.a : Nat) : Int), .int .i64 (sgn o.r), .int .i64 (sgn o.t), .int .i64 (sgn o.s)]] w fun e w' => e = .returned (.bool true) ∧ Below w.heap.size w w' := by
  obtain ⟨g, a, r, t, s⟩ := m
  obtain ⟨g2, a2, r2, t2, s2⟩ := o
  cases hgood : goodM ⟨g, a, r, t, s⟩ with
  | false => exact mback_bad g a r t s g2 a2 r2 t2 s2 hm ho p n c L w hT hS hc hgood
  | true =>
    cases hgo : goodM ⟨g2, a2, r2, t2, s2⟩ with
    | false => exact mback_none g a r t s g2 a2 r2 t2 s2 hm ho p n c L w hT hS hc hgood hgo
    | true =>
      by_cases hge : g ≤ g2
      · exact mback_elder g a r t s g2 a2 r2 t2 s2 hm ho p n c L w hT hS hc hgood hgo hge
      · exact mback_young g a r t s g2 a2 r2 t2 s2 hm ho p n c L w hT hS hc hgood hgo hge
end Go.Proofs.YtppmokkbepihhaaDoor
