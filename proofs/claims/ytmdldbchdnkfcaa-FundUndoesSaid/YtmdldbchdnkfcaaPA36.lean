import Derived.Test.YtmdldbchdnkfcaaPA35
namespace Go.Proofs.Ytmdldbchdnkfcaa
open Go.RowKit Go.ChangeShapes Go.WideShapes
set_option linter.unusedVariables false
set_option linter.unusedSimpArgs false
set_option maxRecDepth 10000
variable {Fu : World → Nat → List FW → (Nat → Prop) → Prop}
theorem kcells {w : World} {B : Nat} {a b c : Value} {T : TypeId} (h : w.heap[B]? = some (.cells #[a, b, c] T (0, 0))) : w.cell? ⟨B, 0, none⟩ = some a ∧ w.cell? ⟨B, 1, none⟩ = some b ∧ w.cell? ⟨B, 2, none⟩ = some c :=
 ⟨block_cell h rfl, block_cell h rfl, block_cell h rfl⟩
set_option maxHeartbeats 8000000 in
theorem law_fsets (I : FundI Fu) (p : Option Addr) (n c : Nat) (L : List FD) (f : Fv) (q : Option Addr) (n2 c2 : Nat) (T : List O) (w : World) (hL : FDL w p n c L) (hx : ∀ x ∈ L, FDok x) (hf : Fok f) (hT : OL w q n2 c2 T) (hy : ∀ x ∈ T, Ook x) :
 Calls Try.prog 4 #[.slice p n c, .agg (fcs f), .slice q n2 c2] w fun e w' => e = .returned (.bool true) ∧ Below w.heap.size w w' := by
 obtain ⟨k1, hk, hkn, hk20⟩ : ∃ k : Nat, min (n : Int) 20 = (k : Int) ∧ k ≤ n ∧ k ≤ 20 := fmin_of n 20
 obtain ⟨k2, hj, hjn, hj40⟩ : ∃ k : Nat, min (n2 : Int) 40 = (k : Int) ∧ k ≤ n2 ∧ k ≤ 40 := fmin_of n2 40
 have hki : (if (20 : Int) < (n : Int) then (20 : Int) else (n : Int)) = (k1 : Int) := by rw [← hk]; omega
 have hji : (if (40 : Int) < (n2 : Int) then (40 : Int) else (n2 : Int)) = (k2 : Int) := by rw [← hj]; omega
 have hcap := hL.cap
 have hdap := hT.cap
 have hmax := hL.max
 have hmax2 := hT.max
 unfold maxLen at hmax hmax2
 have hkc : (k1 : Int) ≤ (c : Int) := by omega
 have hjd : (k2 : Int) ≤ (c2 : Int) := by omega
 have HLW := Lib.hid (hL.take k1 hkn)
 have HTW := Lib.hid (hT.take k2 hjn)
 have HXL := Lib.hid (take_all hx k1)
 have HYT := Lib.hid (take_all hy k2)
 have HLL := Lib.hid (show (L.take k1).length ≤ 20 by rw [List.length_take]; omega)
 have HTN := Lib.hid (show (T.take k2).length = k2 by rw [List.length_take, hT.len]; omega)
 generalize L.take k1 = L1 at *
 generalize T.take k2 = T1 at *
 have HI := Lib.hid I
 clear hL hT hx hy
 obtain ⟨f1, f2, f3, f4, f5, f6⟩ := f
 have HFO := Lib.hid hf
 clear hf
 have HBX : Hid (Below w.heap.size w (w.alloc (.cells #[.int .i64 f1, .int .i64 f2, .int .i64 f3, .int .i64 f4, .int .i64 f5, .int .i64 f6] 42))) := Lib.hid ((Below.refl _ _).alloc (Nat.le_refl _) _)
 have HX0 := Lib.hid (alloc_block w (.cells #[.int .i64 f1, .int .i64 f2, .int .i64 f3, .int .i64 f4, .int .i64 f5, .int .i64 f6] 42))
 obtain ⟨X, hX⟩ : ∃ X, w.heap.size = X := ⟨_, rfl⟩
 have HHX := Lib.hid hX
 rw [hX] at HX0
 go_enter Try.func4, Try.ntmps4
 go_upto_region 1 with (fail)
 clear hX
 generalize w.alloc (.cells #[.int .i64 f1, .int .i64 f2, .int .i64 f3, .int .i64 f4, .int .i64 f5, .int .i64 f6] 42) = wx at *
 go_quiet (fail)
 have HB0 : Hid (Below w.heap.size w (wx.drewN nq)) := Lib.hid (below_drewN HBX.out nq)
 have HX1 : Hid ((wx.drewN nq).heap[X]? = some (.cells #[.int .i64 f1, .int .i64 f2, .int .i64 f3, .int .i64 f4, .int .i64 f5, .int .i64 f6] 42 (0, 0))) := Lib.hid HX0.out
 clear HX0 HBX
 generalize wx.drewN nq = w0 at *
 go_wp2_with fail
 refine (HI.out.new _ _ _ L1 _ (HLW.out.later HB0.out) (by omega) HXL.out).mono ?_
 rintro e1 w1 ⟨B, Q, rfl, hF, hQ, hb1⟩
 have HF1 := Lib.hid hF
 have HQ1 := Lib.hid fun j hj => Nat.le_trans HB0.out.size (hQ j hj)
 have HB1 := Lib.hid (HB0.out.trans (hb1.mono HB0.out.size))
 have HX2 := Lib.hid (block_later HX1.out hb1)
 clear hF hQ hb1 HB0 HX1
 have HOK := Lib.hid (FOk.newL HXL.out)
 have HLN := Lib.hid (show (fnewL L1).length ≤ 20 by have := fnewL_len L1 []; simp only [List.length_nil] at this; have h2 := HLL.out; exact Nat.le_trans this (by omega))
 have HNW := Lib.hid fun w' (hb : Below w.heap.size w w') => fwnew_any p k1 c L1 w' (HLW.out.later hb) (by omega)
 generalize fnewL L1 = M at *
 go_wp2_with fail
 refine (HNW.out _ HB1.out).mono ?_
 rintro e2 w2 ⟨r, m, d, rfl, hr, hb2, ha2⟩
 have HP2 : Hid (FPl Fu w w2 B M Q r m d) := Lib.hid ⟨HI.out.later HF1.out hb2, hr, HOK.out, HLN.out, HQ1.out, fun _ => apart_new HI.out HF1.out ha2, HB1.out.trans (hb2.mono HB1.out.size)⟩
 have HX3 := Lib.hid (block_later HX2.out hb2)
 clear hr hb2 ha2 HF1 HQ1 HB1 HX2
 have hbk : Below w2.heap.size w2 (w2.alloc (.cells #[.int .u8 3, .int .u8 0, .int .u8 0] 32)) := (Below.refl _ _).alloc (Nat.le_refl _) _
 have HK4 := Lib.hid (alloc_block w2 (.cells #[.int .u8 3, .int .u8 0, .int .u8 0] 32))
 have HP4 := Lib.hid (HP2.out.later HI.out hbk)
 have HX4 := Lib.hid (block_later HX3.out hbk)
 have HXK : Hid (¬ X = w2.heap.size) := Lib.hid (Nat.ne_of_lt (block_lt HX3.out))
 have HLW2 : Hid (w.heap.size ≤ w2.heap.size) := Lib.hid HP2.out.below.size
 have HQK : Hid (∀ j, Q j → ¬ j = w2.heap.size) := Lib.hid fun j hj e => by have := HI.out.lt HP2.out.fu j hj; omega
 have HRK : Hid (∀ b, b < w2.heap.size → ¬ b = w2.heap.size) := Lib.hid fun b hb => by omega
 have HRL : Hid (0 < m → ∀ a, r = some a → a.block < w2.heap.size) := Lib.hid fun h0 a ha => by
  obtain ⟨b, off, hb, hlt, _⟩ := HP2.out.rows.cell h0
  rw [ha] at hb
  cases hb
  exact hlt
 clear hbk HP2 HX3
 go_upto_region 4 with (fail)
 generalize w2.alloc (.cells #[.int .u8 3, .int .u8 0, .int .u8 0] 32) = W4 at *
 generalize w2.heap.size = KB at *
 by_cases hz : k2 = 0
 · have t1 : ¬ (0 : Int) < (k2 : Int) := by omega
   have HZ := Lib.hid hz
   have HKok : Hid (Kok ((3, 0, 0) : K)) := Lib.hid ⟨⟨by decide, by decide⟩, ⟨by decide, by decide⟩, ⟨by decide, by decide⟩⟩
   have HKB : Hid (W4.heap[KB]? = some (.cells #[.int .u8 ((3, 0, 0) : K).1, .int .u8 ((3, 0, 0) : K).2.1, .int .u8 ((3, 0, 0) : K).2.2] 32 (0, 0))) := HK4
   clear hz
   generalize ((3, 0, 0) : K) = k at *
   have HP5 := HP4
   have HX5 := HX4
   go_upto_region 6 with (fail)
   have HTX : Hid (∀ w', Below w.heap.size w w' → OL w' q k2 c2 T1) := Lib.hid fun w' hb => HTW.out.later hb
   obtain ⟨y0, y1, y2⟩ := kcells HKB.out
   obtain ⟨q0, q1, q2, q3, q4, q5⟩ := fcells HX5.out
   have hls := fsetL_length HP5.out.ok.up k ⟨f1, f2, f3, f4, f5, f6⟩
   have hos := HP5.out.ok.setL (f := ⟨f1, f2, f3, f4, f5, f6⟩) HKok.out HFO.out
   have HSET := Lib.hid fun w' (hb : Below W4.heap.size W4 w') => HI.out.set w' B M Q k ⟨f1, f2, f3, f4, f5, f6⟩ (HI.out.later HP5.out.fu hb) HP5.out.ok (Nat.le_trans HP5.out.len (by omega)) HKok.out HFO.out
   have HREF := Lib.hid (fwset_any r m d M k ⟨f1, f2, f3, f4, f5, f6⟩ W4 HP5.out.rows (by have := HP5.out.len; have := HP5.out.rows.len; omega))
   generalize fsetL M k ⟨f1, f2, f3, f4, f5, f6⟩ = N at *
   generalize fsetE M k ⟨f1, f2, f3, f4, f5, f6⟩ = z at *
   have HN := Lib.hid (And.intro hls hos)
   clear hls hos
   go_wp2_with fail
   clear y0 y1 y2 q0 q1 q2 q3 q4 q5
   refine HREF.out.mono ?_
   rintro e6 w6 ⟨r6, m6, d6, rfl, hr6, hb6, ho6⟩
   have HR6 := Lib.hid hr6
   have HB6 := Lib.hid hb6
   have HAP : Hid (0 < m6 → ∀ x, r6 = some x → ¬ Q x.block) := Lib.hid fun h0 x hx => by
    rcases ho6 with e | ho6
    · subst e
      by_cases hm : 0 < m
      · exact HP5.out.apart hm x hx
      · exact absurd h0 (by have h1 := HR6.out.len; have h2 := HP5.out.rows.len; have h3 := HN.out.1; omega)
    · exact apart_new HI.out HP5.out.fu ho6 x hx
   have HX6 := Lib.hid (block_later HX5.out hb6)
   have HK6 := Lib.hid (block_later HKB.out hb6)
   clear hr6 hb6 ho6 HREF
   obtain ⟨y0, y1, y2⟩ := kcells HK6.out
   obtain ⟨q0, q1, q2, q3, q4, q5⟩ := fcells HX6.out
   go_wp2_with fail
   clear y0 y1 y2 q0 q1 q2 q3 q4 q5
   refine (HSET.out _ HB6.out).mono ?_
   rintro e7 w7 ⟨rfl, hact⟩
   obtain ⟨Q7, hp7⟩ := FPl.acted HI.out (HP5.out.below.trans (HB6.out.mono HP5.out.below.size)) HP5.out.low HR6.out HAP.out HN.out.2 (by rw [HN.out.1]; exact HP5.out.len) hact
   have HP7 := Lib.hid hp7
   clear hact hp7 HSET
   go_wp2_with fail
   refine (HI.out.same HP7.out.fu HP7.out.ok (Nat.le_trans HP7.out.len (by omega)) _ _ _ HP7.out.rows).mono ?_
   rintro e8 w8 ⟨rfl, hb8⟩
   have HP8 := Lib.hid (HP7.out.later HI.out hb8)
   clear hb8 HP7
   obtain ⟨v, hv⟩ : ∃ v, ftryE N T1 = v := ⟨_, rfl⟩
   have HVV := Lib.hid hv
   go_wp2_with fail
   refine (HI.out.try_ _ B N Q7 _ _ _ T1 HP8.out.fu HP8.out.ok (Nat.le_trans HP8.out.len (by omega)) (HTX.out _ HP8.out.below) (by omega) HYT.out).mono ?_
   rw [hv]
   rintro e9 w9 ⟨rfl, hact⟩
   obtain ⟨Q9, hp9⟩ := FPl.acted HI.out HP8.out.below HP8.out.low HP8.out.rows HP8.out.apart HP8.out.ok HP8.out.len hact
   have HP9 := Lib.hid hp9
   clear hact hp9 hv
   go_wp2_with fail
   refine (fwtry_any _ _ _ N _ _ _ T1 _ HP9.out.rows (by have := HP9.out.len; have := HP9.out.rows.len; omega) HP9.out.ok.fok (HTX.out _ HP9.out.below) (by omega) HYT.out).mono ?_
   rw [HVV.out]
   rintro e10 w10 ⟨rfl, hb10⟩
   have HP10 := Lib.hid (HP9.out.later HI.out hb10)
   clear hb10
   go_wp2_with fail
   refine (HI.out.same HP10.out.fu HP10.out.ok (Nat.le_trans HP10.out.len (by omega)) _ _ _ HP10.out.rows).mono ?_
   rintro e11 w11 ⟨rfl, hb11⟩
   have HB11 := Lib.hid (HP10.out.below.trans (hb11.mono HP10.out.below.size))
   clear hb11
   go_wp2_with fail
   refine (fund_works HI.out _).mono ?_
   rintro e12 w12 ⟨rfl, hb12⟩
   have HB12 := Lib.hid (HB11.out.trans (hb12.mono HB11.out.size))
   clear hb12
   go_wp2_with fail
   go_ret
   exact ⟨rfl, HB12.out⟩
 · have t1 : (0 : Int) < (k2 : Int) := by omega
   have t2 : 0 < k2 := by omega
   obtain ⟨b, off, rfl, hbl, c0, c1, c2', c3⟩ := op_cells (HTW.out.later HP4.out.below) t2
   have HKok := Lib.hid (HYT.out (T1.getD 0 o0) (by rw [List.getD, List.getElem?_eq_getElem (by rw [HTN.out]; exact t2)]; exact List.getElem_mem _)).1
   generalize (T1.getD 0 o0) = x0 at *
   obtain ⟨k, dl⟩ := x0
   replace HKok : Hid (Kok k) := HKok
   simp only [Nat.zero_mul, Nat.add_zero] at c0 c1 c2' c3
   obtain ⟨y0, y1, y2⟩ := kcells HK4.out
   have g0 := block_free 0 HK4.out
   have g1 := block_free 1 HK4.out
   have g2 := block_free 2 HK4.out
   have HZ := Lib.hid hz
   clear hz
   have HKB : Hid ((((W4.setCell ⟨KB, 0, none⟩ (.int .u8 k.1)).setCell ⟨KB, 1, none⟩ (.int .u8 k.2.1)).setCell ⟨KB, 2, none⟩ (.int .u8 k.2.2)).heap[KB]? = some (.cells #[.int .u8 k.1, .int .u8 k.2.1, .int .u8 k.2.2] 32 (0, 0))) := Lib.hid (block_put 2 _ (block_put 1 _ (block_put 0 _ HK4.out)))
   have hch : Chg (fun j => j = KB) W4 (((W4.setCell ⟨KB, 0, none⟩ (.int .u8 k.1)).setCell ⟨KB, 1, none⟩ (.int .u8 k.2.1)).setCell ⟨KB, 2, none⟩ (.int .u8 k.2.2)) := (((Chg.refl (fun j => j = KB) W4).setCell ⟨KB, 0, none⟩ _ fun _ => rfl).setCell ⟨KB, 1, none⟩ _ fun _ => rfl).setCell ⟨KB, 2, none⟩ _ fun _ => rfl
   have HX5 := Lib.hid ((hch.block X (block_lt HX4.out) HXK.out).trans HX4.out)
   have htt : Turn (fun j => j = KB) W4 (((W4.setCell ⟨KB, 0, none⟩ (.int .u8 k.1)).setCell ⟨KB, 1, none⟩ (.int .u8 k.2.1)).setCell ⟨KB, 2, none⟩ (.int .u8 k.2.2)) := ⟨hch.os, hch.tape, hch.output, hch.size, hch.block⟩
   have hrr := (HP4.out.rows).turn (w' := (((W4.setCell ⟨KB, 0, none⟩ (.int .u8 k.1)).setCell ⟨KB, 1, none⟩ (.int .u8 k.2.1)).setCell ⟨KB, 2, none⟩ (.int .u8 k.2.2))) hch.size (fun h0 a ha hlt => hch.block a.block hlt (HRK.out _ (HRL.out h0 a ha)))
   have HP5 : Hid (FPl Fu w (((W4.setCell ⟨KB, 0, none⟩ (.int .u8 k.1)).setCell ⟨KB, 1, none⟩ (.int .u8 k.2.1)).setCell ⟨KB, 2, none⟩ (.int .u8 k.2.2)) B M Q r m d) := Lib.hid ⟨HI.out.keep HP4.out.fu htt (fun j hj => HQK.out j hj), hrr, HP4.out.ok, HP4.out.len, HP4.out.low, HP4.out.apart, hch.below HP4.out.below HP4.out.below.size (fun j hj => by have := HLW2.out; omega)⟩
   clear hch htt hrr
   go_upto_region 6 with (fail)
   clear c0 c1 c2' c3 y0 y1 y2 g0 g1 g2
   generalize ((W4.setCell ⟨KB, 0, none⟩ (.int .u8 k.1)).setCell ⟨KB, 1, none⟩ (.int .u8 k.2.1)).setCell ⟨KB, 2, none⟩ (.int .u8 k.2.2) = W5 at *
   have HTX : Hid (∀ w', Below w.heap.size w w' → OL w' (some ⟨b, off, none⟩) k2 c2 T1) := Lib.hid fun w' hb => HTW.out.later hb
   obtain ⟨y0, y1, y2⟩ := kcells HKB.out
   obtain ⟨q0, q1, q2, q3, q4, q5⟩ := fcells HX5.out
   have hls := fsetL_length HP5.out.ok.up k ⟨f1, f2, f3, f4, f5, f6⟩
   have hos := HP5.out.ok.setL (f := ⟨f1, f2, f3, f4, f5, f6⟩) HKok.out HFO.out
   have HSET := Lib.hid fun w' (hb : Below W5.heap.size W5 w') => HI.out.set w' B M Q k ⟨f1, f2, f3, f4, f5, f6⟩ (HI.out.later HP5.out.fu hb) HP5.out.ok (Nat.le_trans HP5.out.len (by omega)) HKok.out HFO.out
   have HREF := Lib.hid (fwset_any r m d M k ⟨f1, f2, f3, f4, f5, f6⟩ W5 HP5.out.rows (by have := HP5.out.len; have := HP5.out.rows.len; omega))
   generalize fsetL M k ⟨f1, f2, f3, f4, f5, f6⟩ = N at *
   generalize fsetE M k ⟨f1, f2, f3, f4, f5, f6⟩ = z at *
   have HN := Lib.hid (And.intro hls hos)
   clear hls hos
   go_wp2_with fail
   clear y0 y1 y2 q0 q1 q2 q3 q4 q5
   refine HREF.out.mono ?_
   rintro e6 w6 ⟨r6, m6, d6, rfl, hr6, hb6, ho6⟩
   have HR6 := Lib.hid hr6
   have HB6 := Lib.hid hb6
   have HAP : Hid (0 < m6 → ∀ x, r6 = some x → ¬ Q x.block) := Lib.hid fun h0 x hx => by
    rcases ho6 with e | ho6
    · subst e
      by_cases hm : 0 < m
      · exact HP5.out.apart hm x hx
      · exact absurd h0 (by have h1 := HR6.out.len; have h2 := HP5.out.rows.len; have h3 := HN.out.1; omega)
    · exact apart_new HI.out HP5.out.fu ho6 x hx
   have HX6 := Lib.hid (block_later HX5.out hb6)
   have HK6 := Lib.hid (block_later HKB.out hb6)
   clear hr6 hb6 ho6 HREF
   obtain ⟨y0, y1, y2⟩ := kcells HK6.out
   obtain ⟨q0, q1, q2, q3, q4, q5⟩ := fcells HX6.out
   go_wp2_with fail
   clear y0 y1 y2 q0 q1 q2 q3 q4 q5
   refine (HSET.out _ HB6.out).mono ?_
   rintro e7 w7 ⟨rfl, hact⟩
   obtain ⟨Q7, hp7⟩ := FPl.acted HI.out (HP5.out.below.trans (HB6.out.mono HP5.out.below.size)) HP5.out.low HR6.out HAP.out HN.out.2 (by rw [HN.out.1]; exact HP5.out.len) hact
   have HP7 := Lib.hid hp7
   clear hact hp7 HSET
   go_wp2_with fail
   refine (HI.out.same HP7.out.fu HP7.out.ok (Nat.le_trans HP7.out.len (by omega)) _ _ _ HP7.out.rows).mono ?_
   rintro e8 w8 ⟨rfl, hb8⟩
   have HP8 := Lib.hid (HP7.out.later HI.out hb8)
   clear hb8 HP7
   obtain ⟨v, hv⟩ : ∃ v, ftryE N T1 = v := ⟨_, rfl⟩
   have HVV := Lib.hid hv
   go_wp2_with fail
   refine (HI.out.try_ _ B N Q7 _ _ _ T1 HP8.out.fu HP8.out.ok (Nat.le_trans HP8.out.len (by omega)) (HTX.out _ HP8.out.below) (by omega) HYT.out).mono ?_
   rw [hv]
   rintro e9 w9 ⟨rfl, hact⟩
   obtain ⟨Q9, hp9⟩ := FPl.acted HI.out HP8.out.below HP8.out.low HP8.out.rows HP8.out.apart HP8.out.ok HP8.out.len hact
   have HP9 := Lib.hid hp9
   clear hact hp9 hv
   go_wp2_with fail
   refine (fwtry_any _ _ _ N _ _ _ T1 _ HP9.out.rows (by have := HP9.out.len; have := HP9.out.rows.len; omega) HP9.out.ok.fok (HTX.out _ HP9.out.below) (by omega) HYT.out).mono ?_
   rw [HVV.out]
   rintro e10 w10 ⟨rfl, hb10⟩
   have HP10 := Lib.hid (HP9.out.later HI.out hb10)
   clear hb10
   go_wp2_with fail
   refine (HI.out.same HP10.out.fu HP10.out.ok (Nat.le_trans HP10.out.len (by omega)) _ _ _ HP10.out.rows).mono ?_
   rintro e11 w11 ⟨rfl, hb11⟩
   have HB11 := Lib.hid (HP10.out.below.trans (hb11.mono HP10.out.below.size))
   clear hb11
   go_wp2_with fail
   refine (fund_works HI.out _).mono ?_
   rintro e12 w12 ⟨rfl, hb12⟩
   have HB12 := Lib.hid (HB11.out.trans (hb12.mono HB11.out.size))
   clear hb12
   go_wp2_with fail
   go_ret
   exact ⟨rfl, HB12.out⟩
end Go.Proofs.Ytmdldbchdnkfcaa
