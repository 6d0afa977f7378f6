import Derived.Test.YtmdldbchdnkfcaaPA27
import Derived.Test.YtmdldbchdnkfcaaPA10
import Derived.Deep.RegionHeld
namespace Go.Proofs.Ytmdldbchdnkfcaa
open Go.RowKit Go.ChangeShapes Go.WideShapes
set_option linter.unusedVariables false
set_option linter.unusedSimpArgs false
set_option maxRecDepth 10000
def GivesWE (W : World) (p : Option Addr) (L : List FW) (z : Int) (e : Ending) (w' : World) : Prop := ∃ r m d, e = .returned (.tuple #[.slice r m d, .int .i64 z]) ∧ FWL w' r m d L ∧ Below W.heap.size W w' ∧ (r = p ∨ ∀ a, r = some a → W.heap.size ≤ a.block)
def fsetL (L : List FW) (k : K) (f : Fv) : List FW := if (getG L k).isSome = true ∧ goodF f = true then putG L k f else L
def fsetE (L : List FW) (k : K) (f : Fv) : Int := if (getG L k).isSome = true then (if goodF f = true then 0 else 12) else 10
set_option maxHeartbeats 2000000 in
theorem fwset_any (p : Option Addr) (n c : Nat) (L : List FW) (k : K) (f : Fv) (W : World) (hL : FWL W p n c L) (hn : n ≤ 10000) :
 Calls Try.prog 14 #[.slice p n c, .agg #[.int .u8 k.1, .int .u8 k.2.1, .int .u8 k.2.2], .agg (fcs f)] W (GivesWE W p (fsetL L k f) (fsetE L k f)) := by
 have HG := Lib.hid fun w' (hb : Below W.heap.size W w') => fwget_any p n c L k w' (hL.later hb) (by omega)
 have HP := Lib.hid fun w' (hb : Below W.heap.size W w') => fwput_any p n c L k f w' (hL.later hb) (by omega)
 have HGF := Lib.hid fun w => rgood_any f w
 have HLL := Lib.hid fun w' (hb : Below W.heap.size W w') => hL.later hb
 have HS : Hid (fsetL L k f = (if (getG L k).isSome = true ∧ goodF f = true then putG L k f else L) ∧ fsetE L k f = (if (getG L k).isSome = true then (if goodF f = true then 0 else 12) else 10)) := Lib.hid ⟨rfl, rfl⟩
 generalize fsetL L k f = SL at *
 generalize fsetE L k f = SE at *
 obtain ⟨hb0, hx0, hy0⟩ := ftwo_boxes W #[.int .u8 k.1, .int .u8 k.2.1, .int .u8 k.2.2] (fcs f) 32 42
 have HB0 := Lib.hid hb0
 have HX0 := Lib.hid hx0
 have HY0 := Lib.hid hy0
 obtain ⟨X, hX⟩ : ∃ X, W.heap.size = X := ⟨_, rfl⟩
 have HHX := Lib.hid hX
 rw [hX] at HX0 HY0
 clear hb0 hx0 hy0 hL
 generalize hg : getG L k = g at *
 have HGG := Lib.hid hg
 clear hg
 obtain ⟨lo, hi, ba, inf, sup, va⟩ := f
 go_enter Try.func14, Try.ntmps14
 go_upto_region 1 with (fail)
 clear hX
 generalize (W.alloc (.cells #[.int .u8 k.1, .int .u8 k.2.1, .int .u8 k.2.2] 32)).alloc (.cells #[.int .i64 lo, .int .i64 hi, .int .i64 ba, .int .i64 inf, .int .i64 sup, .int .i64 va] 42) = V0 at *
 generalize X + 1 = Y at *
 have x0 := block_cell (j := 0) HX0.out rfl
 have x1 := block_cell (j := 1) HX0.out rfl
 have x2 := block_cell (j := 2) HX0.out rfl
 go_wp2_with fail
 clear x0 x1 x2
 refine (HG.out _ HB0.out).mono ?_
 rintro e1 w1 ⟨rfl, hb1⟩
 cases g with
 | none =>
  obtain ⟨h1, h2⟩ := HS.out
  have e1 : SL = L := by rw [h1]; exact if_neg (fun h => by cases h.1)
  have e2 : SE = 10 := by rw [h2]; exact if_neg (fun h => by cases h)
  subst e1 e2
  have HB1 := Lib.hid (HB0.out.trans (hb1.mono HB0.out.size))
  clear hb1 h1 h2
  simp only [Option.getD_none, Option.isSome_none]
  have HBA := Lib.hid (HB1.out.alloc HB1.out.size (.cells #[.int .i64 0, .int .i64 0, .int .i64 0, .int .i64 0, .int .i64 0, .int .i64 0] 42))
  have HLF := Lib.hid (HLL.out _ HBA.out)
  go_wp2_with fail
  go_ret2
  exact ⟨p, n, c, rfl, HLF.out, HBA.out, .inl rfl⟩
 | some v =>
  simp only [Option.getD_some, Option.isSome_some]
  obtain ⟨v1, v2, v3, v4, v5, v6⟩ := v
  have hbn : Below w1.heap.size w1 (w1.alloc (.cells #[.int .i64 v1, .int .i64 v2, .int .i64 v3, .int .i64 v4, .int .i64 v5, .int .i64 v6] 42)) := (Below.refl _ _).alloc (Nat.le_refl _) _
  have HX1 := Lib.hid (block_later (block_later HX0.out hb1) hbn)
  have HY1 := Lib.hid (block_later (block_later HY0.out hb1) hbn)
  have HB1 := Lib.hid (HB0.out.trans ((hb1.trans (hbn.mono hb1.size)).mono HB0.out.size))
  clear hb1 hbn HX0 HY0 HB0
  go_upto_region 4 with (fail)
  generalize w1.alloc (.cells #[.int .i64 v1, .int .i64 v2, .int .i64 v3, .int .i64 v4, .int .i64 v5, .int .i64 v6] 42) = W1 at *
  generalize w1.heap.size = G at *
  obtain ⟨y0, y1, y2, y3, y4, y5⟩ := fcells HY1.out
  go_wp2_with fail
  clear y0 y1 y2 y3 y4 y5
  refine (HGF.out _).mono ?_
  rintro e2 w2 ⟨rfl, hb2⟩
  have HX2 := Lib.hid (block_later HX1.out hb2)
  have HY2 := Lib.hid (block_later HY1.out hb2)
  have HB2 := Lib.hid (HB1.out.trans (hb2.mono HB1.out.size))
  clear hb2 HX1 HY1 HB1
  by_cases hgd : goodF ⟨lo, hi, ba, inf, sup, va⟩ = true
  · rw [hgd] at HS ⊢
    obtain ⟨h1, h2⟩ := HS.out
    have e1 : SL = putG L k ⟨lo, hi, ba, inf, sup, va⟩ := by rw [h1]; exact if_pos ⟨rfl, rfl⟩
    have e2 : SE = 0 := by rw [h2]; rfl
    subst e1 e2
    have HGD := Lib.hid hgd
    clear h1 h2 hgd
    obtain ⟨y0, y1, y2, y3, y4, y5⟩ := fcells HY2.out
    have x0 := block_cell (j := 0) HX2.out rfl
    have x1 := block_cell (j := 1) HX2.out rfl
    have x2 := block_cell (j := 2) HX2.out rfl
    go_wp2_with fail
    clear y0 y1 y2 y3 y4 y5 x0 x1 x2
    refine (HP.out _ HB2.out).mono ?_
    rintro e3 w3 ⟨r3, d3, rfl, hs3, hb3, hr3⟩
    have HR3 := Lib.hid (fun a ha => Nat.le_trans HB2.out.size (hr3 a ha))
    clear hr3
    have HS3 := Lib.hid hs3
    have HB3 := Lib.hid (HB2.out.trans (hb3.mono HB2.out.size))
    clear hs3 hb3
    go_wp2_with fail
    go_ret2
    exact ⟨r3, _, d3, rfl, HS3.out, HB3.out, .inr HR3.out⟩
  · rw [Bool.eq_false_iff.2 hgd] at HS ⊢
    obtain ⟨h1, h2⟩ := HS.out
    have e1 : SL = L := by rw [h1]; exact if_neg (fun h => by cases h.2)
    have e2 : SE = 12 := by rw [h2]; rfl
    subst e1 e2
    have HGD := Lib.hid hgd
    have HLF := Lib.hid (HLL.out _ HB2.out)
    clear h1 h2 hgd
    go_wp2_with fail
    go_ret2
    exact ⟨p, n, c, rfl, HLF.out, HB2.out, .inl rfl⟩
end Go.Proofs.Ytmdldbchdnkfcaa
