/- FieldDoes. (Written by tools/src/mkfieldlaws.py.) -/
import Derived.Test.YtgjfgabagfhnoaaFieldWorks
import Derived.Deep.Cut
import Derived.Deep.RegionWith
import Derived.Test.YtgjfgabagfhnoaaHand
namespace Go.Proofs.Ytgjfgabagfhnoaa
open Go.RowKit Go.ChangeShapes Go.WideShapes
set_option linter.unusedVariables false
set_option linter.unusedSimpArgs false
set_option maxRecDepth 10000

theorem mv_k3 (c : Int) : K3 (mvV c) ∧ K3 (mvB c) ∧ K3 (mvN c) ∧ K3 (mvF c) := by
  unfold K3 mvV mvB mvN mvF
  refine ⟨?_, ?_, ?_, ?_⟩
  · split
    · exact Or.inr (Or.inr rfl)
    · split
      · exact Or.inr (Or.inl rfl)
      · exact Or.inl rfl
  · split
    · exact Or.inr (Or.inl rfl)
    · exact Or.inl rfl
  · split
    · exact Or.inr (Or.inl rfl)
    · exact Or.inl rfl
  · split
    · exact Or.inr (Or.inr rfl)
    · exact Or.inl rfl
set_option maxHeartbeats 4000000 in
theorem does_grant (f g : Fv) (d a z : Int) (w : World) (b : Bool) (ha : 0 ≤ a) (hc : a % 6 = 0)
    (h1 : ∀ w, Calls Try.prog 9 #[.int .u8 a, .agg (fcs f), .int .i64 d] w fun r w' => r = .returned (.tuple #[.agg (fcs g), .int .i64 z]) ∧ Below w.heap.size w w')
    (h2 : ∀ w, Calls Try.prog 10 #[.agg (fcs f), .int .i64 d] w fun r w' => r = .returned (.tuple #[.agg (fcs g), .int .i64 z]) ∧ Below w.heap.size w w')
    (hgf : goodF f = b) (hgg : b = true → goodF g = true) (hz : z ≠ 0 → g = f) (hz0 : z = 0 → b = true) :
    Calls Try.prog 3 #[.agg (fcs f), .int .i64 d, .int .u8 a] w fun e w' => e = .returned (.bool true) ∧ Below w.heap.size w w' := by
  have H1 := Lib.hid h1
  have H2 := Lib.hid h2
  have t1 : ¬ 0 < a % 6 := by omega
  obtain ⟨lo, hi, ba, inf, sup, va⟩ := f
  obtain ⟨g1, g2, g3, g4, g5, g6⟩ := g
  have HGF := Lib.hid hgf
  have HC := Lib.hid hc
  clear h1 h2 hgf hc
  by_cases h : z = 0
  · subst h
    have hb := hz0 rfl
    subst hb
    have HGG := Lib.hid (hgg rfl)
    clear hgg hz hz0
    obtain ⟨X, hX⟩ : ∃ X, w.heap.size = X := ⟨_, rfl⟩
    have HY0 := Lib.hid (alloc_block w (.cells #[.int .i64 lo, .int .i64 hi, .int .i64 ba, .int .i64 inf, .int .i64 sup, .int .i64 va] 23))
    have HB : Hid (Below w.heap.size w (w.alloc (.cells #[.int .i64 lo, .int .i64 hi, .int .i64 ba, .int .i64 inf, .int .i64 sup, .int .i64 va] 23))) := Lib.hid ((Below.refl _ _).alloc (Nat.le_refl _) _)
    have HHX := Lib.hid hX
    rw [hX] at HY0
    go_enter Try.func3, Try.ntmps3
    go_wp2_with fail
    clear hX
    generalize w.alloc (.cells #[.int .i64 lo, .int .i64 hi, .int .i64 ba, .int .i64 inf, .int .i64 sup, .int .i64 va] 23) = V0 at *
    refine (H1.out _).mono ?_
    rintro e1 w1 ⟨rfl, hb1⟩
    have hbn : Below w1.heap.size w1 (w1.alloc (.cells #[.int .i64 g1, .int .i64 g2, .int .i64 g3, .int .i64 g4, .int .i64 g5, .int .i64 g6] 23)) := (Below.refl _ _).alloc (Nat.le_refl _) _
    replace HY0 := Lib.hid (block_later (block_later HY0.out hb1) hbn)
    have HY1 := Lib.hid (alloc_block w1 (.cells #[.int .i64 g1, .int .i64 g2, .int .i64 g3, .int .i64 g4, .int .i64 g5, .int .i64 g6] 23))
    replace HB := Lib.hid (HB.out.trans ((hb1.trans (hbn.mono hb1.size)).mono HB.out.size))
    clear hbn hb1
    obtain ⟨b00, b01, b02, b03, b04, b05⟩ := fcells HY0.out
    go_wp2_with fail
    clear b00 b01 b02 b03 b04 b05
    generalize w1.alloc (.cells #[.int .i64 g1, .int .i64 g2, .int .i64 g3, .int .i64 g4, .int .i64 g5, .int .i64 g6] 23) = V1 at *
    generalize w1.heap.size = Y1 at *
    refine (H2.out _).mono ?_
    rintro e2 w2 ⟨rfl, hb2⟩
    have hbn : Below w2.heap.size w2 (w2.alloc (.cells #[.int .i64 g1, .int .i64 g2, .int .i64 g3, .int .i64 g4, .int .i64 g5, .int .i64 g6] 23)) := (Below.refl _ _).alloc (Nat.le_refl _) _
    replace HY0 := Lib.hid (block_later (block_later HY0.out hb2) hbn)
    replace HY1 := Lib.hid (block_later (block_later HY1.out hb2) hbn)
    have HY2 := Lib.hid (alloc_block w2 (.cells #[.int .i64 g1, .int .i64 g2, .int .i64 g3, .int .i64 g4, .int .i64 g5, .int .i64 g6] 23))
    replace HB := Lib.hid (HB.out.trans ((hb2.trans (hbn.mono hb2.size)).mono HB.out.size))
    clear hbn hb2
    go_upto_region 5 with (fail)
    generalize w2.alloc (.cells #[.int .i64 g1, .int .i64 g2, .int .i64 g3, .int .i64 g4, .int .i64 g5, .int .i64 g6] 23) = V2 at *
    generalize w2.heap.size = Y2 at *
    clear H1 H2
    obtain ⟨b00, b01, b02, b03, b04, b05⟩ := fcells HY0.out
    obtain ⟨b10, b11, b12, b13, b14, b15⟩ := fcells HY1.out
    obtain ⟨b20, b21, b22, b23, b24, b25⟩ := fcells HY2.out
    replace b00 := fun q : After V2 => cell_after q b00
    replace b01 := fun q : After V2 => cell_after q b01
    replace b02 := fun q : After V2 => cell_after q b02
    replace b03 := fun q : After V2 => cell_after q b03
    replace b04 := fun q : After V2 => cell_after q b04
    replace b05 := fun q : After V2 => cell_after q b05
    replace b10 := fun q : After V2 => cell_after q b10
    replace b11 := fun q : After V2 => cell_after q b11
    replace b12 := fun q : After V2 => cell_after q b12
    replace b13 := fun q : After V2 => cell_after q b13
    replace b14 := fun q : After V2 => cell_after q b14
    replace b15 := fun q : After V2 => cell_after q b15
    replace b20 := fun q : After V2 => cell_after q b20
    replace b21 := fun q : After V2 => cell_after q b21
    replace b22 := fun q : After V2 => cell_after q b22
    replace b23 := fun q : After V2 => cell_after q b23
    replace b24 := fun q : After V2 => cell_after q b24
    replace b25 := fun q : After V2 => cell_after q b25
    have hg1 := fun q : After V2 => fgood_any ⟨lo, hi, ba, inf, sup, va⟩ q.w
    have hg2 := fun q : After V2 => rgood_any ⟨lo, hi, ba, inf, sup, va⟩ q.w
    have hg3 := fun q : After V2 => rgood_any ⟨g1, g2, g3, g4, g5, g6⟩ q.w
    have hwk := fun q : After V2 => field_works q.w
    simp only [HGF.out] at hg1 hg2
    simp only [HGG.out] at hg3
    refine wp_region_after (by kernel_rfl) (by kernel_rfl) ?_
    repeat (go_big_quiet_step (first | (go_at_call 13; with_reducible exact calls_after _ (hg1 _)) | (go_at_call 14; first | (with_reducible exact calls_after _ (hg2 _)) | (with_reducible exact calls_after _ (hg3 _))) | (go_at_call 15; with_reducible exact calls_after _ (hwk _))))
    refine wpQuiet_nil ?_
    intro w9 hw'
    obtain ⟨⟨wq, h6⟩, hw''⟩ := hw'
    subst hw''
    have HF := Lib.hid (HB.out.trans (h6.mono HB.out.size))
    clear h6 hg1 hg2 hg3 hwk b00 b01 b02 b03 b04 b05 b10 b11 b12 b13 b14 b15 b20 b21 b22 b23 b24 b25
    go_wp2_with fail
    go_ret
    exact ⟨rfl, HF.out⟩
  · cases hz h
    have k1 : (z == 0) = false := by simpa using h
    have HZ := Lib.hid h
    have HGG := HGF
    clear hgg hz hz0 h
    cases b with
    | true =>
      obtain ⟨X, hX⟩ : ∃ X, w.heap.size = X := ⟨_, rfl⟩
      have HY0 := Lib.hid (alloc_block w (.cells #[.int .i64 lo, .int .i64 hi, .int .i64 ba, .int .i64 inf, .int .i64 sup, .int .i64 va] 23))
      have HB : Hid (Below w.heap.size w (w.alloc (.cells #[.int .i64 lo, .int .i64 hi, .int .i64 ba, .int .i64 inf, .int .i64 sup, .int .i64 va] 23))) := Lib.hid ((Below.refl _ _).alloc (Nat.le_refl _) _)
      have HHX := Lib.hid hX
      rw [hX] at HY0
      go_enter Try.func3, Try.ntmps3
      go_wp2_with fail
      clear hX
      generalize w.alloc (.cells #[.int .i64 lo, .int .i64 hi, .int .i64 ba, .int .i64 inf, .int .i64 sup, .int .i64 va] 23) = V0 at *
      refine (H1.out _).mono ?_
      rintro e1 w1 ⟨rfl, hb1⟩
      have hbn : Below w1.heap.size w1 (w1.alloc (.cells #[.int .i64 lo, .int .i64 hi, .int .i64 ba, .int .i64 inf, .int .i64 sup, .int .i64 va] 23)) := (Below.refl _ _).alloc (Nat.le_refl _) _
      replace HY0 := Lib.hid (block_later (block_later HY0.out hb1) hbn)
      have HY1 := Lib.hid (alloc_block w1 (.cells #[.int .i64 lo, .int .i64 hi, .int .i64 ba, .int .i64 inf, .int .i64 sup, .int .i64 va] 23))
      replace HB := Lib.hid (HB.out.trans ((hb1.trans (hbn.mono hb1.size)).mono HB.out.size))
      clear hbn hb1
      obtain ⟨b00, b01, b02, b03, b04, b05⟩ := fcells HY0.out
      go_wp2_with fail
      clear b00 b01 b02 b03 b04 b05
      generalize w1.alloc (.cells #[.int .i64 lo, .int .i64 hi, .int .i64 ba, .int .i64 inf, .int .i64 sup, .int .i64 va] 23) = V1 at *
      generalize w1.heap.size = Y1 at *
      refine (H2.out _).mono ?_
      rintro e2 w2 ⟨rfl, hb2⟩
      have hbn : Below w2.heap.size w2 (w2.alloc (.cells #[.int .i64 lo, .int .i64 hi, .int .i64 ba, .int .i64 inf, .int .i64 sup, .int .i64 va] 23)) := (Below.refl _ _).alloc (Nat.le_refl _) _
      replace HY0 := Lib.hid (block_later (block_later HY0.out hb2) hbn)
      replace HY1 := Lib.hid (block_later (block_later HY1.out hb2) hbn)
      have HY2 := Lib.hid (alloc_block w2 (.cells #[.int .i64 lo, .int .i64 hi, .int .i64 ba, .int .i64 inf, .int .i64 sup, .int .i64 va] 23))
      replace HB := Lib.hid (HB.out.trans ((hb2.trans (hbn.mono hb2.size)).mono HB.out.size))
      clear hbn hb2
      go_upto_region 5 with (fail)
      generalize w2.alloc (.cells #[.int .i64 lo, .int .i64 hi, .int .i64 ba, .int .i64 inf, .int .i64 sup, .int .i64 va] 23) = V2 at *
      generalize w2.heap.size = Y2 at *
      clear H1 H2
      obtain ⟨b00, b01, b02, b03, b04, b05⟩ := fcells HY0.out
      obtain ⟨b10, b11, b12, b13, b14, b15⟩ := fcells HY1.out
      obtain ⟨b20, b21, b22, b23, b24, b25⟩ := fcells HY2.out
      replace b00 := fun q : After V2 => cell_after q b00
      replace b01 := fun q : After V2 => cell_after q b01
      replace b02 := fun q : After V2 => cell_after q b02
      replace b03 := fun q : After V2 => cell_after q b03
      replace b04 := fun q : After V2 => cell_after q b04
      replace b05 := fun q : After V2 => cell_after q b05
      replace b10 := fun q : After V2 => cell_after q b10
      replace b11 := fun q : After V2 => cell_after q b11
      replace b12 := fun q : After V2 => cell_after q b12
      replace b13 := fun q : After V2 => cell_after q b13
      replace b14 := fun q : After V2 => cell_after q b14
      replace b15 := fun q : After V2 => cell_after q b15
      replace b20 := fun q : After V2 => cell_after q b20
      replace b21 := fun q : After V2 => cell_after q b21
      replace b22 := fun q : After V2 => cell_after q b22
      replace b23 := fun q : After V2 => cell_after q b23
      replace b24 := fun q : After V2 => cell_after q b24
      replace b25 := fun q : After V2 => cell_after q b25
      have hg1 := fun q : After V2 => fgood_any ⟨lo, hi, ba, inf, sup, va⟩ q.w
      have hg2 := fun q : After V2 => rgood_any ⟨lo, hi, ba, inf, sup, va⟩ q.w
      have hg3 := fun q : After V2 => rgood_any ⟨lo, hi, ba, inf, sup, va⟩ q.w
      have hwk := fun q : After V2 => field_works q.w
      simp only [HGF.out] at hg1 hg2
      simp only [HGG.out] at hg3
      refine wp_region_after (by kernel_rfl) (by kernel_rfl) ?_
      repeat (go_big_quiet_step (first | (go_at_call 13; with_reducible exact calls_after _ (hg1 _)) | (go_at_call 14; first | (with_reducible exact calls_after _ (hg2 _)) | (with_reducible exact calls_after _ (hg3 _))) | (go_at_call 15; with_reducible exact calls_after _ (hwk _))))
      refine wpQuiet_nil ?_
      intro w9 hw'
      obtain ⟨⟨wq, h6⟩, hw''⟩ := hw'
      subst hw''
      have HF := Lib.hid (HB.out.trans (h6.mono HB.out.size))
      clear h6 hg1 hg2 hg3 hwk b00 b01 b02 b03 b04 b05 b10 b11 b12 b13 b14 b15 b20 b21 b22 b23 b24 b25
      go_wp2_with fail
      go_ret
      exact ⟨rfl, HF.out⟩
    | false =>
      obtain ⟨X, hX⟩ : ∃ X, w.heap.size = X := ⟨_, rfl⟩
      have HY0 := Lib.hid (alloc_block w (.cells #[.int .i64 lo, .int .i64 hi, .int .i64 ba, .int .i64 inf, .int .i64 sup, .int .i64 va] 23))
      have HB : Hid (Below w.heap.size w (w.alloc (.cells #[.int .i64 lo, .int .i64 hi, .int .i64 ba, .int .i64 inf, .int .i64 sup, .int .i64 va] 23))) := Lib.hid ((Below.refl _ _).alloc (Nat.le_refl _) _)
      have HHX := Lib.hid hX
      rw [hX] at HY0
      go_enter Try.func3, Try.ntmps3
      go_wp2_with fail
      clear hX
      generalize w.alloc (.cells #[.int .i64 lo, .int .i64 hi, .int .i64 ba, .int .i64 inf, .int .i64 sup, .int .i64 va] 23) = V0 at *
      refine (H1.out _).mono ?_
      rintro e1 w1 ⟨rfl, hb1⟩
      have hbn : Below w1.heap.size w1 (w1.alloc (.cells #[.int .i64 lo, .int .i64 hi, .int .i64 ba, .int .i64 inf, .int .i64 sup, .int .i64 va] 23)) := (Below.refl _ _).alloc (Nat.le_refl _) _
      replace HY0 := Lib.hid (block_later (block_later HY0.out hb1) hbn)
      have HY1 := Lib.hid (alloc_block w1 (.cells #[.int .i64 lo, .int .i64 hi, .int .i64 ba, .int .i64 inf, .int .i64 sup, .int .i64 va] 23))
      replace HB := Lib.hid (HB.out.trans ((hb1.trans (hbn.mono hb1.size)).mono HB.out.size))
      clear hbn hb1
      obtain ⟨b00, b01, b02, b03, b04, b05⟩ := fcells HY0.out
      go_wp2_with fail
      clear b00 b01 b02 b03 b04 b05
      generalize w1.alloc (.cells #[.int .i64 lo, .int .i64 hi, .int .i64 ba, .int .i64 inf, .int .i64 sup, .int .i64 va] 23) = V1 at *
      generalize w1.heap.size = Y1 at *
      refine (H2.out _).mono ?_
      rintro e2 w2 ⟨rfl, hb2⟩
      have hbn : Below w2.heap.size w2 (w2.alloc (.cells #[.int .i64 lo, .int .i64 hi, .int .i64 ba, .int .i64 inf, .int .i64 sup, .int .i64 va] 23)) := (Below.refl _ _).alloc (Nat.le_refl _) _
      replace HY0 := Lib.hid (block_later (block_later HY0.out hb2) hbn)
      replace HY1 := Lib.hid (block_later (block_later HY1.out hb2) hbn)
      have HY2 := Lib.hid (alloc_block w2 (.cells #[.int .i64 lo, .int .i64 hi, .int .i64 ba, .int .i64 inf, .int .i64 sup, .int .i64 va] 23))
      replace HB := Lib.hid (HB.out.trans ((hb2.trans (hbn.mono hb2.size)).mono HB.out.size))
      clear hbn hb2
      go_upto_region 5 with (fail)
      generalize w2.alloc (.cells #[.int .i64 lo, .int .i64 hi, .int .i64 ba, .int .i64 inf, .int .i64 sup, .int .i64 va] 23) = V2 at *
      generalize w2.heap.size = Y2 at *
      clear H1 H2
      obtain ⟨b00, b01, b02, b03, b04, b05⟩ := fcells HY0.out
      obtain ⟨b10, b11, b12, b13, b14, b15⟩ := fcells HY1.out
      obtain ⟨b20, b21, b22, b23, b24, b25⟩ := fcells HY2.out
      replace b00 := fun q : After V2 => cell_after q b00
      replace b01 := fun q : After V2 => cell_after q b01
      replace b02 := fun q : After V2 => cell_after q b02
      replace b03 := fun q : After V2 => cell_after q b03
      replace b04 := fun q : After V2 => cell_after q b04
      replace b05 := fun q : After V2 => cell_after q b05
      replace b10 := fun q : After V2 => cell_after q b10
      replace b11 := fun q : After V2 => cell_after q b11
      replace b12 := fun q : After V2 => cell_after q b12
      replace b13 := fun q : After V2 => cell_after q b13
      replace b14 := fun q : After V2 => cell_after q b14
      replace b15 := fun q : After V2 => cell_after q b15
      replace b20 := fun q : After V2 => cell_after q b20
      replace b21 := fun q : After V2 => cell_after q b21
      replace b22 := fun q : After V2 => cell_after q b22
      replace b23 := fun q : After V2 => cell_after q b23
      replace b24 := fun q : After V2 => cell_after q b24
      replace b25 := fun q : After V2 => cell_after q b25
      have hg1 := fun q : After V2 => fgood_any ⟨lo, hi, ba, inf, sup, va⟩ q.w
      have hg2 := fun q : After V2 => rgood_any ⟨lo, hi, ba, inf, sup, va⟩ q.w
      have hg3 := fun q : After V2 => rgood_any ⟨lo, hi, ba, inf, sup, va⟩ q.w
      have hwk := fun q : After V2 => field_works q.w
      simp only [HGF.out] at hg1 hg2
      simp only [HGG.out] at hg3
      refine wp_region_after (by kernel_rfl) (by kernel_rfl) ?_
      repeat (go_big_quiet_step (first | (go_at_call 13; with_reducible exact calls_after _ (hg1 _)) | (go_at_call 14; first | (with_reducible exact calls_after _ (hg2 _)) | (with_reducible exact calls_after _ (hg3 _))) | (go_at_call 15; with_reducible exact calls_after _ (hwk _))))
      refine wpQuiet_nil ?_
      intro w9 hw'
      obtain ⟨⟨wq, h6⟩, hw''⟩ := hw'
      subst hw''
      have HF := Lib.hid (HB.out.trans (h6.mono HB.out.size))
      clear h6 hg1 hg2 hg3 hwk b00 b01 b02 b03 b04 b05 b10 b11 b12 b13 b14 b15 b20 b21 b22 b23 b24 b25
      go_wp2_with fail
      go_ret
      exact ⟨rfl, HF.out⟩
/-- What lies in two boxes, behind a world. -/
structure SX (w : World) (X Y : Nat) (F G : Array Value) (w' : World) : Prop where
  below : Below w.heap.size w w'
  x : w'.heap[X]? = some (.cells F 23 (0, 0))
  y : w'.heap[Y]? = some (.cells G 23 (0, 0))
theorem SX.later {w w1 w2 : World} {X Y : Nat} {F G : Array Value} (h : SX w X Y F G w1) (hb : Below w1.heap.size w1 w2) : SX w X Y F G w2 :=
  ⟨h.below.trans (hb.mono h.below.size), block_later h.x hb, block_later h.y hb⟩
theorem SX.stored {w w1 : World} {X Y Z : Nat} {F G : Array Value} (h : SX w X Y F G w1) (hz : w.heap.size ≤ Z ∧ X ≠ Z ∧ Y ≠ Z) (a' b' c' d' e' f' : Value) :
    SX w X Y F G ((((((w1.setCell ⟨Z, 0, none⟩ a').setCell ⟨Z, 1, none⟩ b').setCell ⟨Z, 2, none⟩ c').setCell ⟨Z, 3, none⟩ d').setCell ⟨Z, 4, none⟩ e').setCell ⟨Z, 5, none⟩ f') := by
  have hch : Chg (fun k => k = Z) w1 ((((((w1.setCell ⟨Z, 0, none⟩ a').setCell ⟨Z, 1, none⟩ b').setCell ⟨Z, 2, none⟩ c').setCell ⟨Z, 3, none⟩ d').setCell ⟨Z, 4, none⟩ e').setCell ⟨Z, 5, none⟩ f') :=
    ((((((Chg.refl (fun k => k = Z) w1).setCell ⟨Z, 0, none⟩ _ fun _ => rfl).setCell ⟨Z, 1, none⟩ _ fun _ => rfl).setCell ⟨Z, 2, none⟩ _ fun _ => rfl).setCell ⟨Z, 3, none⟩ _ fun _ => rfl).setCell ⟨Z, 4, none⟩ _ fun _ => rfl).setCell ⟨Z, 5, none⟩ _ fun _ => rfl
  exact ⟨fkept h.below hz.1 a' b' c' d' e' f', (hch.block X (block_lt h.x) hz.2.1).trans h.x, (hch.block Y (block_lt h.y) hz.2.2).trans h.y⟩
set_option maxHeartbeats 4000000 in
theorem does_move (f g x : Fv) (d a z e m1 m2 m3 m4 : Int) (w : World) (b : Bool) (ha : 0 ≤ a) (hc : 0 < a % 6)
    (h1 : ∀ w, Calls Try.prog 9 #[.int .u8 a, .agg (fcs f), .int .i64 d] w fun r w' => r = .returned (.tuple #[.agg (fcs g), .int .i64 z]) ∧ Below w.heap.size w w')
    (h2 : ∀ w, Calls Try.prog 10 #[.agg (fcs f), .int .i64 d] w fun r w' => r = .returned (.tuple #[.agg (fcs x), .int .i64 e]) ∧ Below w.heap.size w w')
    (h3 : ∀ w, Calls Try.prog 12 #[.int .i64 (a % 6)] w fun r w' => r = .returned (.agg #[.int .i64 m1, .int .i64 m2, .int .i64 m3, .int .i64 m4]) ∧ Below w.heap.size w w')
    (h4 : ∀ w, Calls Try.prog 11 #[.agg (fcs f), .int .i64 d, .agg #[.int .i64 m1, .int .i64 m2, .int .i64 m3, .int .i64 m4]] w fun r w' => r = .returned (.tuple #[.agg (fcs g), .int .i64 z]) ∧ Below w.heap.size w w')
    (hgf : goodF f = b) (hgg : b = true → goodF g = true) (hz : z ≠ 0 → g = f) (hz0 : z = 0 → b = true) :
    Calls Try.prog 3 #[.agg (fcs f), .int .i64 d, .int .u8 a] w fun e w' => e = .returned (.bool true) ∧ Below w.heap.size w w' := by
  have H1 := Lib.hid h1
  have H2 := Lib.hid h2
  have H3 := Lib.hid h3
  have H4 := Lib.hid h4
  have ew : IntKind.i64.wrap (a % 6) = a % 6 := i64w _ (by omega)
  obtain ⟨lo, hi, ba, inf, sup, va⟩ := f
  obtain ⟨g1, g2, g3, g4, g5, g6⟩ := g
  obtain ⟨x1, x2, x3, x4, x5, x6⟩ := x
  have HGF := Lib.hid hgf
  clear h1 h2 h3 h4 hgf
  by_cases h : z = 0
  · subst h
    have hb := hz0 rfl
    subst hb
    have HGG := Lib.hid (hgg rfl)
    clear hgg hz hz0
    obtain ⟨X, hX⟩ : ∃ X, w.heap.size = X := ⟨_, rfl⟩
    have HY0 := Lib.hid (alloc_block w (.cells #[.int .i64 lo, .int .i64 hi, .int .i64 ba, .int .i64 inf, .int .i64 sup, .int .i64 va] 23))
    have HB : Hid (Below w.heap.size w (w.alloc (.cells #[.int .i64 lo, .int .i64 hi, .int .i64 ba, .int .i64 inf, .int .i64 sup, .int .i64 va] 23))) := Lib.hid ((Below.refl _ _).alloc (Nat.le_refl _) _)
    have HHX := Lib.hid hX
    rw [hX] at HY0
    go_enter Try.func3, Try.ntmps3
    go_wp2_with fail
    clear hX
    generalize w.alloc (.cells #[.int .i64 lo, .int .i64 hi, .int .i64 ba, .int .i64 inf, .int .i64 sup, .int .i64 va] 23) = V0 at *
    refine (H1.out _).mono ?_
    rintro e1 w1 ⟨rfl, hb1⟩
    have hbn : Below w1.heap.size w1 (w1.alloc (.cells #[.int .i64 g1, .int .i64 g2, .int .i64 g3, .int .i64 g4, .int .i64 g5, .int .i64 g6] 23)) := (Below.refl _ _).alloc (Nat.le_refl _) _
    replace HY0 := Lib.hid (block_later (block_later HY0.out hb1) hbn)
    have HY1 := Lib.hid (alloc_block w1 (.cells #[.int .i64 g1, .int .i64 g2, .int .i64 g3, .int .i64 g4, .int .i64 g5, .int .i64 g6] 23))
    replace HB := Lib.hid (HB.out.trans ((hb1.trans (hbn.mono hb1.size)).mono HB.out.size))
    clear hbn hb1
    obtain ⟨b00, b01, b02, b03, b04, b05⟩ := fcells HY0.out
    go_wp2_with fail
    clear b00 b01 b02 b03 b04 b05
    generalize w1.alloc (.cells #[.int .i64 g1, .int .i64 g2, .int .i64 g3, .int .i64 g4, .int .i64 g5, .int .i64 g6] 23) = V1 at *
    generalize w1.heap.size = Y1 at *
    refine (H2.out _).mono ?_
    rintro e2 w2 ⟨rfl, hb2⟩
    have HOO : Hid (w.heap.size ≤ w2.heap.size ∧ X ≠ w2.heap.size ∧ Y1 ≠ w2.heap.size) := Lib.hid ⟨(HB.out.trans (hb2.mono HB.out.size)).size, Nat.ne_of_lt (block_lt (block_later HY0.out hb2)), Nat.ne_of_lt (block_lt (block_later HY1.out hb2))⟩
    have hbn : Below w2.heap.size w2 (w2.alloc (.cells #[.int .i64 x1, .int .i64 x2, .int .i64 x3, .int .i64 x4, .int .i64 x5, .int .i64 x6] 23)) := (Below.refl _ _).alloc (Nat.le_refl _) _
    replace HY0 := Lib.hid (block_later (block_later HY0.out hb2) hbn)
    replace HY1 := Lib.hid (block_later (block_later HY1.out hb2) hbn)
    have HY2 := Lib.hid (alloc_block w2 (.cells #[.int .i64 x1, .int .i64 x2, .int .i64 x3, .int .i64 x4, .int .i64 x5, .int .i64 x6] 23))
    replace HB := Lib.hid (HB.out.trans ((hb2.trans (hbn.mono hb2.size)).mono HB.out.size))
    clear hbn hb2
    go_upto_region 4 with (fail)
    generalize w2.alloc (.cells #[.int .i64 x1, .int .i64 x2, .int .i64 x3, .int .i64 x4, .int .i64 x5, .int .i64 x6] 23) = V2 at *
    generalize w2.heap.size = Y2 at *
    clear H1 H2
    have hbd : SX w X Y1 #[.int .i64 lo, .int .i64 hi, .int .i64 ba, .int .i64 inf, .int .i64 sup, .int .i64 va] #[.int .i64 g1, .int .i64 g2, .int .i64 g3, .int .i64 g4, .int .i64 g5, .int .i64 g6] V2.drew := ⟨below_drewN HB.out 1, HY0.out, HY1.out⟩
    have HD2 : Hid (V2.drew.heap[Y2]? = some (.cells #[.int .i64 x1, .int .i64 x2, .int .i64 x3, .int .i64 x4, .int .i64 x5, .int .i64 x6] 23 (0, 0))) := Lib.hid HY2.out
    have HO2 : Hid (w.heap.size ≤ Y2 ∧ X ≠ Y2 ∧ Y1 ≠ Y2) := Lib.hid HOO.out
    clear HY0 HY1 HY2 HB
    refine wp_region_held_drew (S := fun w' => Hid (SX w X Y1 #[.int .i64 lo, .int .i64 hi, .int .i64 ba, .int .i64 inf, .int .i64 sup, .int .i64 va] #[.int .i64 g1, .int .i64 g2, .int .i64 g3, .int .i64 g4, .int .i64 g5, .int .i64 g6] w')) (by kernel_rfl) (Lib.hid hbd) (fun hHeld => ?_)
    clear hbd
    refine wpAnyH_take (i := 1) (oi := ⟨some 29, _, _, _, _, _⟩) (v := .int .i64 d) rfl (by kernel_rfl) (by kernel_rfl) (by kernel_rfl) (fun _ _ _ h => h) (Or.inl ⟨by rfl, fun w' hw' => ?_⟩) (by assumption) ?_
    · clear hHeld
      go_simp
    simp only [Act.put, List.setIfInBounds_toArray, List.set_cons_zero, List.set_cons_succ]
    refine wpAnyH_take (i := 2) (oi := ⟨some 30, _, _, _, _, _⟩) (v := .int .u8 a) rfl (by kernel_rfl) (by kernel_rfl) (by kernel_rfl) (fun _ _ _ h => h) (Or.inl ⟨by rfl, fun w' hw' => ?_⟩) (by assumption) ?_
    · clear hHeld
      go_simp
    simp only [Act.put, List.setIfInBounds_toArray, List.set_cons_zero, List.set_cons_succ]
    refine wpAnyH_take (i := 3) (oi := ⟨some 31, _, _, _, _, _⟩) (v := .int .u8 (a % 6)) rfl (by kernel_rfl) (by kernel_rfl) (by kernel_rfl) (fun _ _ _ h => h) (Or.inl ⟨by rfl, fun w' hw' => ?_⟩) (by assumption) ?_
    · clear hHeld
      go_simp
      exact Int.tmod_eq_emod_of_nonneg ha
    simp only [Act.put, List.setIfInBounds_toArray, List.set_cons_zero, List.set_cons_succ]
    refine wpAnyH_take (i := 4) (oi := ⟨some 32, _, _, _, _, _⟩) (v := .int .i64 (a % 6)) rfl (by kernel_rfl) (by kernel_rfl) (by kernel_rfl) (fun _ _ _ h => h) (Or.inl ⟨by rfl, fun w' hw' => ?_⟩) (by assumption) ?_
    · clear hHeld
      go_simp
    simp only [Act.put, List.setIfInBounds_toArray, List.set_cons_zero, List.set_cons_succ]
    refine wpAnyH_take (i := 0) (oi := ⟨some 28, _, _, _, _, _⟩) (v := .agg #[.int .i64 lo, .int .i64 hi, .int .i64 ba, .int .i64 inf, .int .i64 sup, .int .i64 va]) rfl (by kernel_rfl) (by kernel_rfl) (by kernel_rfl) (fun _ _ _ h => h) (Or.inl ⟨by rfl, fun w' hw' => ?_⟩) (by assumption) ?_
    · obtain ⟨c0, c1, c2, c3, c4, c5⟩ := fcells hw'.out.x
      clear hHeld
      go_simp
    simp only [Act.put, List.setIfInBounds_toArray, List.set_cons_zero, List.set_cons_succ]
    refine wpAnyH_ready (rs := [5]) (by kernel_rfl) (by simp) (AllReadyH.cons rfl (fun K hK => ?_) AllReadyH.nil)
    go_simp
    go_wp2_with fail
    refine (H3.out _).mono ?_
    rintro e3 w3 ⟨rfl, hb3⟩
    have hS3 : Hid (SX w X Y1 #[.int .i64 lo, .int .i64 hi, .int .i64 ba, .int .i64 inf, .int .i64 sup, .int .i64 va] #[.int .i64 g1, .int .i64 g2, .int .i64 g3, .int .i64 g4, .int .i64 g5, .int .i64 g6] w3) := Lib.hid (hHeld.out.later hb3)
    have HD3 := Lib.hid (block_later HD2.out hb3)
    clear hb3
    go_wp2_with fail
    refine hK.out _ _ hS3 (fun hHeld2 => ?_)
    clear hS3 hK K hHeld HD2
    have hHeld := hHeld2
    clear hHeld2
    refine wpAnyH_ready (rs := [6]) (by kernel_rfl) (by simp) (AllReadyH.cons rfl (fun K hK => ?_) AllReadyH.nil)
    go_simp
    go_wp2_with fail
    refine (H4.out _).mono ?_
    rintro e4 w4 ⟨rfl, hb4⟩
    have hS4 : Hid (SX w X Y1 #[.int .i64 lo, .int .i64 hi, .int .i64 ba, .int .i64 inf, .int .i64 sup, .int .i64 va] #[.int .i64 g1, .int .i64 g2, .int .i64 g3, .int .i64 g4, .int .i64 g5, .int .i64 g6] w4) := Lib.hid (hHeld.out.later hb4)
    have HD4 := Lib.hid (block_later HD3.out hb4)
    clear hb4
    go_wp2_with fail
    refine hK.out _ _ hS4 (fun hHeld2 => ?_)
    clear hS4 hK K hHeld HD3
    have hHeld := hHeld2
    clear hHeld2
    refine wpAnyH_take (i := 7) (oi := ⟨some 27, _, _, _, _, _⟩) (v := .tuple #[.agg #[.int .i64 g1, .int .i64 g2, .int .i64 g3, .int .i64 g4, .int .i64 g5, .int .i64 g6], .int .i64 0]) rfl (by kernel_rfl) (by kernel_rfl) (by kernel_rfl) (fun _ _ _ h => h) (Or.inl ⟨by rfl, fun w' hw' => ?_⟩) (by assumption) ?_
    · clear hHeld
      go_simp
    simp only [Act.put, List.setIfInBounds_toArray, List.set_cons_zero, List.set_cons_succ]
    refine wpAnyH_take (i := 8) (oi := ⟨some 35, _, _, _, _, _⟩) (v := .agg #[.int .i64 g1, .int .i64 g2, .int .i64 g3, .int .i64 g4, .int .i64 g5, .int .i64 g6]) rfl (by kernel_rfl) (by kernel_rfl) (by kernel_rfl) (fun _ _ _ h => h) (Or.inl ⟨by rfl, fun w' hw' => ?_⟩) (by assumption) ?_
    · clear hHeld
      go_simp
    simp only [Act.put, List.setIfInBounds_toArray, List.set_cons_zero, List.set_cons_succ]
    refine wpAnyH_take (i := 9) (oi := ⟨some 36, _, _, _, _, _⟩) (v := .int .i64 0) rfl (by kernel_rfl) (by kernel_rfl) (by kernel_rfl) (fun _ _ _ h => h) (Or.inl ⟨by rfl, fun w' hw' => ?_⟩) (by assumption) ?_
    · clear hHeld
      go_simp
    simp only [Act.put, List.setIfInBounds_toArray, List.set_cons_zero, List.set_cons_succ]
    refine wpAnyH_ready (rs := [10]) (by kernel_rfl) (by simp) (AllReadyH.cons rfl (fun K hK => ?_) AllReadyH.nil)
    obtain ⟨r0, r1, r2, r3, r4, r5⟩ := fcells HD4.out
    obtain ⟨f0, f1, f2, f3, f4, f5⟩ := ffree HD4.out
    have HY2 := Lib.hid (fstored (a' := .int .i64 g1) (b' := .int .i64 g2) (c' := .int .i64 g3) (d' := .int .i64 g4) (e' := .int .i64 g5) (f' := .int .i64 g6) HD4.out)
    have hS5 : Hid (SX w X Y1 #[.int .i64 lo, .int .i64 hi, .int .i64 ba, .int .i64 inf, .int .i64 sup, .int .i64 va] #[.int .i64 g1, .int .i64 g2, .int .i64 g3, .int .i64 g4, .int .i64 g5, .int .i64 g6] ((((((w4.setCell ⟨Y2, 0, none⟩ (.int .i64 g1)).setCell ⟨Y2, 1, none⟩ (.int .i64 g2)).setCell ⟨Y2, 2, none⟩ (.int .i64 g3)).setCell ⟨Y2, 3, none⟩ (.int .i64 g4)).setCell ⟨Y2, 4, none⟩ (.int .i64 g5)).setCell ⟨Y2, 5, none⟩ (.int .i64 g6))) := Lib.hid (hHeld.out.stored HO2.out (.int .i64 g1) (.int .i64 g2) (.int .i64 g3) (.int .i64 g4) (.int .i64 g5) (.int .i64 g6))
    go_simp
    go_wp2_with fail
    refine hK.out _ _ hS5 (fun hHeld2 => ?_)
    clear r0 r1 r2 r3 r4 r5 f0 f1 f2 f3 f4 f5 hS5 hK K hHeld HD4
    have HH5 := hHeld2
    have hHeld := hHeld2
    clear hHeld2
    refine wpAnyH_take (i := 11) (oi := ⟨some 10, _, _, _, _, _⟩) (v := .int .i64 0) rfl (by kernel_rfl) (by kernel_rfl) (by kernel_rfl) (fun _ _ _ h => h) (Or.inl ⟨by rfl, fun w' hw' => ?_⟩) (by assumption) ?_
    · clear hHeld
      go_simp
    simp only [Act.put, List.setIfInBounds_toArray, List.set_cons_zero, List.set_cons_succ]
    refine wpAnyH_done (by kernel_rfl) ?_ _
    generalize ((((((w4.setCell ⟨Y2, 0, none⟩ (.int .i64 g1)).setCell ⟨Y2, 1, none⟩ (.int .i64 g2)).setCell ⟨Y2, 2, none⟩ (.int .i64 g3)).setCell ⟨Y2, 3, none⟩ (.int .i64 g4)).setCell ⟨Y2, 4, none⟩ (.int .i64 g5)).setCell ⟨Y2, 5, none⟩ (.int .i64 g6)) = W5 at *
    have HY0 := Lib.hid HH5.out.x
    have HY1 := Lib.hid HH5.out.y
    have HB := Lib.hid HH5.out.below
    clear HH5 H3 H4
    go_upto_region 5 with (fail)
    obtain ⟨b00, b01, b02, b03, b04, b05⟩ := fcells HY0.out
    obtain ⟨b10, b11, b12, b13, b14, b15⟩ := fcells HY1.out
    obtain ⟨b20, b21, b22, b23, b24, b25⟩ := fcells HY2.out
    replace b00 := fun q : After W5 => cell_after q b00
    replace b01 := fun q : After W5 => cell_after q b01
    replace b02 := fun q : After W5 => cell_after q b02
    replace b03 := fun q : After W5 => cell_after q b03
    replace b04 := fun q : After W5 => cell_after q b04
    replace b05 := fun q : After W5 => cell_after q b05
    replace b10 := fun q : After W5 => cell_after q b10
    replace b11 := fun q : After W5 => cell_after q b11
    replace b12 := fun q : After W5 => cell_after q b12
    replace b13 := fun q : After W5 => cell_after q b13
    replace b14 := fun q : After W5 => cell_after q b14
    replace b15 := fun q : After W5 => cell_after q b15
    replace b20 := fun q : After W5 => cell_after q b20
    replace b21 := fun q : After W5 => cell_after q b21
    replace b22 := fun q : After W5 => cell_after q b22
    replace b23 := fun q : After W5 => cell_after q b23
    replace b24 := fun q : After W5 => cell_after q b24
    replace b25 := fun q : After W5 => cell_after q b25
    have hg1 := fun q : After W5 => fgood_any ⟨lo, hi, ba, inf, sup, va⟩ q.w
    have hg2 := fun q : After W5 => rgood_any ⟨lo, hi, ba, inf, sup, va⟩ q.w
    have hg3 := fun q : After W5 => rgood_any ⟨g1, g2, g3, g4, g5, g6⟩ q.w
    have hwk := fun q : After W5 => field_works q.w
    simp only [HGF.out] at hg1 hg2
    simp only [HGG.out] at hg3
    refine wp_region_after (by kernel_rfl) (by kernel_rfl) ?_
    repeat (go_big_quiet_step (first | (go_at_call 13; with_reducible exact calls_after _ (hg1 _)) | (go_at_call 14; first | (with_reducible exact calls_after _ (hg2 _)) | (with_reducible exact calls_after _ (hg3 _))) | (go_at_call 15; with_reducible exact calls_after _ (hwk _))))
    refine wpQuiet_nil ?_
    intro w9 hw'
    obtain ⟨⟨wq, h6⟩, hw''⟩ := hw'
    subst hw''
    have HF := Lib.hid (HB.out.trans (h6.mono HB.out.size))
    clear h6 hg1 hg2 hg3 hwk b00 b01 b02 b03 b04 b05 b10 b11 b12 b13 b14 b15 b20 b21 b22 b23 b24 b25
    go_wp2_with fail
    go_ret
    exact ⟨rfl, HF.out⟩
  · cases hz h
    have k1 : (z == 0) = false := by simpa using h
    have HZ := Lib.hid h
    have HGG := HGF
    clear hgg hz hz0 h
    cases b with
    | true =>
      obtain ⟨X, hX⟩ : ∃ X, w.heap.size = X := ⟨_, rfl⟩
      have HY0 := Lib.hid (alloc_block w (.cells #[.int .i64 lo, .int .i64 hi, .int .i64 ba, .int .i64 inf, .int .i64 sup, .int .i64 va] 23))
      have HB : Hid (Below w.heap.size w (w.alloc (.cells #[.int .i64 lo, .int .i64 hi, .int .i64 ba, .int .i64 inf, .int .i64 sup, .int .i64 va] 23))) := Lib.hid ((Below.refl _ _).alloc (Nat.le_refl _) _)
      have HHX := Lib.hid hX
      rw [hX] at HY0
      go_enter Try.func3, Try.ntmps3
      go_wp2_with fail
      clear hX
      generalize w.alloc (.cells #[.int .i64 lo, .int .i64 hi, .int .i64 ba, .int .i64 inf, .int .i64 sup, .int .i64 va] 23) = V0 at *
      refine (H1.out _).mono ?_
      rintro e1 w1 ⟨rfl, hb1⟩
      have hbn : Below w1.heap.size w1 (w1.alloc (.cells #[.int .i64 lo, .int .i64 hi, .int .i64 ba, .int .i64 inf, .int .i64 sup, .int .i64 va] 23)) := (Below.refl _ _).alloc (Nat.le_refl _) _
      replace HY0 := Lib.hid (block_later (block_later HY0.out hb1) hbn)
      have HY1 := Lib.hid (alloc_block w1 (.cells #[.int .i64 lo, .int .i64 hi, .int .i64 ba, .int .i64 inf, .int .i64 sup, .int .i64 va] 23))
      replace HB := Lib.hid (HB.out.trans ((hb1.trans (hbn.mono hb1.size)).mono HB.out.size))
      clear hbn hb1
      obtain ⟨b00, b01, b02, b03, b04, b05⟩ := fcells HY0.out
      go_wp2_with fail
      clear b00 b01 b02 b03 b04 b05
      generalize w1.alloc (.cells #[.int .i64 lo, .int .i64 hi, .int .i64 ba, .int .i64 inf, .int .i64 sup, .int .i64 va] 23) = V1 at *
      generalize w1.heap.size = Y1 at *
      refine (H2.out _).mono ?_
      rintro e2 w2 ⟨rfl, hb2⟩
      have HOO : Hid (w.heap.size ≤ w2.heap.size ∧ X ≠ w2.heap.size ∧ Y1 ≠ w2.heap.size) := Lib.hid ⟨(HB.out.trans (hb2.mono HB.out.size)).size, Nat.ne_of_lt (block_lt (block_later HY0.out hb2)), Nat.ne_of_lt (block_lt (block_later HY1.out hb2))⟩
      have hbn : Below w2.heap.size w2 (w2.alloc (.cells #[.int .i64 x1, .int .i64 x2, .int .i64 x3, .int .i64 x4, .int .i64 x5, .int .i64 x6] 23)) := (Below.refl _ _).alloc (Nat.le_refl _) _
      replace HY0 := Lib.hid (block_later (block_later HY0.out hb2) hbn)
      replace HY1 := Lib.hid (block_later (block_later HY1.out hb2) hbn)
      have HY2 := Lib.hid (alloc_block w2 (.cells #[.int .i64 x1, .int .i64 x2, .int .i64 x3, .int .i64 x4, .int .i64 x5, .int .i64 x6] 23))
      replace HB := Lib.hid (HB.out.trans ((hb2.trans (hbn.mono hb2.size)).mono HB.out.size))
      clear hbn hb2
      go_upto_region 4 with (fail)
      generalize w2.alloc (.cells #[.int .i64 x1, .int .i64 x2, .int .i64 x3, .int .i64 x4, .int .i64 x5, .int .i64 x6] 23) = V2 at *
      generalize w2.heap.size = Y2 at *
      clear H1 H2
      have hbd : SX w X Y1 #[.int .i64 lo, .int .i64 hi, .int .i64 ba, .int .i64 inf, .int .i64 sup, .int .i64 va] #[.int .i64 lo, .int .i64 hi, .int .i64 ba, .int .i64 inf, .int .i64 sup, .int .i64 va] V2.drew := ⟨below_drewN HB.out 1, HY0.out, HY1.out⟩
      have HD2 : Hid (V2.drew.heap[Y2]? = some (.cells #[.int .i64 x1, .int .i64 x2, .int .i64 x3, .int .i64 x4, .int .i64 x5, .int .i64 x6] 23 (0, 0))) := Lib.hid HY2.out
      have HO2 : Hid (w.heap.size ≤ Y2 ∧ X ≠ Y2 ∧ Y1 ≠ Y2) := Lib.hid HOO.out
      clear HY0 HY1 HY2 HB
      refine wp_region_held_drew (S := fun w' => Hid (SX w X Y1 #[.int .i64 lo, .int .i64 hi, .int .i64 ba, .int .i64 inf, .int .i64 sup, .int .i64 va] #[.int .i64 lo, .int .i64 hi, .int .i64 ba, .int .i64 inf, .int .i64 sup, .int .i64 va] w')) (by kernel_rfl) (Lib.hid hbd) (fun hHeld => ?_)
      clear hbd
      refine wpAnyH_take (i := 1) (oi := ⟨some 29, _, _, _, _, _⟩) (v := .int .i64 d) rfl (by kernel_rfl) (by kernel_rfl) (by kernel_rfl) (fun _ _ _ h => h) (Or.inl ⟨by rfl, fun w' hw' => ?_⟩) (by assumption) ?_
      · clear hHeld
        go_simp
      simp only [Act.put, List.setIfInBounds_toArray, List.set_cons_zero, List.set_cons_succ]
      refine wpAnyH_take (i := 2) (oi := ⟨some 30, _, _, _, _, _⟩) (v := .int .u8 a) rfl (by kernel_rfl) (by kernel_rfl) (by kernel_rfl) (fun _ _ _ h => h) (Or.inl ⟨by rfl, fun w' hw' => ?_⟩) (by assumption) ?_
      · clear hHeld
        go_simp
      simp only [Act.put, List.setIfInBounds_toArray, List.set_cons_zero, List.set_cons_succ]
      refine wpAnyH_take (i := 3) (oi := ⟨some 31, _, _, _, _, _⟩) (v := .int .u8 (a % 6)) rfl (by kernel_rfl) (by kernel_rfl) (by kernel_rfl) (fun _ _ _ h => h) (Or.inl ⟨by rfl, fun w' hw' => ?_⟩) (by assumption) ?_
      · clear hHeld
        go_simp
        exact Int.tmod_eq_emod_of_nonneg ha
      simp only [Act.put, List.setIfInBounds_toArray, List.set_cons_zero, List.set_cons_succ]
      refine wpAnyH_take (i := 4) (oi := ⟨some 32, _, _, _, _, _⟩) (v := .int .i64 (a % 6)) rfl (by kernel_rfl) (by kernel_rfl) (by kernel_rfl) (fun _ _ _ h => h) (Or.inl ⟨by rfl, fun w' hw' => ?_⟩) (by assumption) ?_
      · clear hHeld
        go_simp
      simp only [Act.put, List.setIfInBounds_toArray, List.set_cons_zero, List.set_cons_succ]
      refine wpAnyH_take (i := 0) (oi := ⟨some 28, _, _, _, _, _⟩) (v := .agg #[.int .i64 lo, .int .i64 hi, .int .i64 ba, .int .i64 inf, .int .i64 sup, .int .i64 va]) rfl (by kernel_rfl) (by kernel_rfl) (by kernel_rfl) (fun _ _ _ h => h) (Or.inl ⟨by rfl, fun w' hw' => ?_⟩) (by assumption) ?_
      · obtain ⟨c0, c1, c2, c3, c4, c5⟩ := fcells hw'.out.x
        clear hHeld
        go_simp
      simp only [Act.put, List.setIfInBounds_toArray, List.set_cons_zero, List.set_cons_succ]
      refine wpAnyH_ready (rs := [5]) (by kernel_rfl) (by simp) (AllReadyH.cons rfl (fun K hK => ?_) AllReadyH.nil)
      go_simp
      go_wp2_with fail
      refine (H3.out _).mono ?_
      rintro e3 w3 ⟨rfl, hb3⟩
      have hS3 : Hid (SX w X Y1 #[.int .i64 lo, .int .i64 hi, .int .i64 ba, .int .i64 inf, .int .i64 sup, .int .i64 va] #[.int .i64 lo, .int .i64 hi, .int .i64 ba, .int .i64 inf, .int .i64 sup, .int .i64 va] w3) := Lib.hid (hHeld.out.later hb3)
      have HD3 := Lib.hid (block_later HD2.out hb3)
      clear hb3
      go_wp2_with fail
      refine hK.out _ _ hS3 (fun hHeld2 => ?_)
      clear hS3 hK K hHeld HD2
      have hHeld := hHeld2
      clear hHeld2
      refine wpAnyH_ready (rs := [6]) (by kernel_rfl) (by simp) (AllReadyH.cons rfl (fun K hK => ?_) AllReadyH.nil)
      go_simp
      go_wp2_with fail
      refine (H4.out _).mono ?_
      rintro e4 w4 ⟨rfl, hb4⟩
      have hS4 : Hid (SX w X Y1 #[.int .i64 lo, .int .i64 hi, .int .i64 ba, .int .i64 inf, .int .i64 sup, .int .i64 va] #[.int .i64 lo, .int .i64 hi, .int .i64 ba, .int .i64 inf, .int .i64 sup, .int .i64 va] w4) := Lib.hid (hHeld.out.later hb4)
      have HD4 := Lib.hid (block_later HD3.out hb4)
      clear hb4
      go_wp2_with fail
      refine hK.out _ _ hS4 (fun hHeld2 => ?_)
      clear hS4 hK K hHeld HD3
      have hHeld := hHeld2
      clear hHeld2
      refine wpAnyH_take (i := 7) (oi := ⟨some 27, _, _, _, _, _⟩) (v := .tuple #[.agg #[.int .i64 lo, .int .i64 hi, .int .i64 ba, .int .i64 inf, .int .i64 sup, .int .i64 va], .int .i64 z]) rfl (by kernel_rfl) (by kernel_rfl) (by kernel_rfl) (fun _ _ _ h => h) (Or.inl ⟨by rfl, fun w' hw' => ?_⟩) (by assumption) ?_
      · clear hHeld
        go_simp
      simp only [Act.put, List.setIfInBounds_toArray, List.set_cons_zero, List.set_cons_succ]
      refine wpAnyH_take (i := 8) (oi := ⟨some 35, _, _, _, _, _⟩) (v := .agg #[.int .i64 lo, .int .i64 hi, .int .i64 ba, .int .i64 inf, .int .i64 sup, .int .i64 va]) rfl (by kernel_rfl) (by kernel_rfl) (by kernel_rfl) (fun _ _ _ h => h) (Or.inl ⟨by rfl, fun w' hw' => ?_⟩) (by assumption) ?_
      · clear hHeld
        go_simp
      simp only [Act.put, List.setIfInBounds_toArray, List.set_cons_zero, List.set_cons_succ]
      refine wpAnyH_take (i := 9) (oi := ⟨some 36, _, _, _, _, _⟩) (v := .int .i64 z) rfl (by kernel_rfl) (by kernel_rfl) (by kernel_rfl) (fun _ _ _ h => h) (Or.inl ⟨by rfl, fun w' hw' => ?_⟩) (by assumption) ?_
      · clear hHeld
        go_simp
      simp only [Act.put, List.setIfInBounds_toArray, List.set_cons_zero, List.set_cons_succ]
      refine wpAnyH_ready (rs := [10]) (by kernel_rfl) (by simp) (AllReadyH.cons rfl (fun K hK => ?_) AllReadyH.nil)
      obtain ⟨r0, r1, r2, r3, r4, r5⟩ := fcells HD4.out
      obtain ⟨f0, f1, f2, f3, f4, f5⟩ := ffree HD4.out
      have HY2 := Lib.hid (fstored (a' := .int .i64 lo) (b' := .int .i64 hi) (c' := .int .i64 ba) (d' := .int .i64 inf) (e' := .int .i64 sup) (f' := .int .i64 va) HD4.out)
      have hS5 : Hid (SX w X Y1 #[.int .i64 lo, .int .i64 hi, .int .i64 ba, .int .i64 inf, .int .i64 sup, .int .i64 va] #[.int .i64 lo, .int .i64 hi, .int .i64 ba, .int .i64 inf, .int .i64 sup, .int .i64 va] ((((((w4.setCell ⟨Y2, 0, none⟩ (.int .i64 lo)).setCell ⟨Y2, 1, none⟩ (.int .i64 hi)).setCell ⟨Y2, 2, none⟩ (.int .i64 ba)).setCell ⟨Y2, 3, none⟩ (.int .i64 inf)).setCell ⟨Y2, 4, none⟩ (.int .i64 sup)).setCell ⟨Y2, 5, none⟩ (.int .i64 va))) := Lib.hid (hHeld.out.stored HO2.out (.int .i64 lo) (.int .i64 hi) (.int .i64 ba) (.int .i64 inf) (.int .i64 sup) (.int .i64 va))
      go_simp
      go_wp2_with fail
      refine hK.out _ _ hS5 (fun hHeld2 => ?_)
      clear r0 r1 r2 r3 r4 r5 f0 f1 f2 f3 f4 f5 hS5 hK K hHeld HD4
      have HH5 := hHeld2
      have hHeld := hHeld2
      clear hHeld2
      refine wpAnyH_take (i := 11) (oi := ⟨some 10, _, _, _, _, _⟩) (v := .int .i64 z) rfl (by kernel_rfl) (by kernel_rfl) (by kernel_rfl) (fun _ _ _ h => h) (Or.inl ⟨by rfl, fun w' hw' => ?_⟩) (by assumption) ?_
      · clear hHeld
        go_simp
      simp only [Act.put, List.setIfInBounds_toArray, List.set_cons_zero, List.set_cons_succ]
      refine wpAnyH_done (by kernel_rfl) ?_ _
      generalize ((((((w4.setCell ⟨Y2, 0, none⟩ (.int .i64 lo)).setCell ⟨Y2, 1, none⟩ (.int .i64 hi)).setCell ⟨Y2, 2, none⟩ (.int .i64 ba)).setCell ⟨Y2, 3, none⟩ (.int .i64 inf)).setCell ⟨Y2, 4, none⟩ (.int .i64 sup)).setCell ⟨Y2, 5, none⟩ (.int .i64 va)) = W5 at *
      have HY0 := Lib.hid HH5.out.x
      have HY1 := Lib.hid HH5.out.y
      have HB := Lib.hid HH5.out.below
      clear HH5 H3 H4
      go_upto_region 5 with (fail)
      obtain ⟨b00, b01, b02, b03, b04, b05⟩ := fcells HY0.out
      obtain ⟨b10, b11, b12, b13, b14, b15⟩ := fcells HY1.out
      obtain ⟨b20, b21, b22, b23, b24, b25⟩ := fcells HY2.out
      replace b00 := fun q : After W5 => cell_after q b00
      replace b01 := fun q : After W5 => cell_after q b01
      replace b02 := fun q : After W5 => cell_after q b02
      replace b03 := fun q : After W5 => cell_after q b03
      replace b04 := fun q : After W5 => cell_after q b04
      replace b05 := fun q : After W5 => cell_after q b05
      replace b10 := fun q : After W5 => cell_after q b10
      replace b11 := fun q : After W5 => cell_after q b11
      replace b12 := fun q : After W5 => cell_after q b12
      replace b13 := fun q : After W5 => cell_after q b13
      replace b14 := fun q : After W5 => cell_after q b14
      replace b15 := fun q : After W5 => cell_after q b15
      replace b20 := fun q : After W5 => cell_after q b20
      replace b21 := fun q : After W5 => cell_after q b21
      replace b22 := fun q : After W5 => cell_after q b22
      replace b23 := fun q : After W5 => cell_after q b23
      replace b24 := fun q : After W5 => cell_after q b24
      replace b25 := fun q : After W5 => cell_after q b25
      have hg1 := fun q : After W5 => fgood_any ⟨lo, hi, ba, inf, sup, va⟩ q.w
      have hg2 := fun q : After W5 => rgood_any ⟨lo, hi, ba, inf, sup, va⟩ q.w
      have hg3 := fun q : After W5 => rgood_any ⟨lo, hi, ba, inf, sup, va⟩ q.w
      have hwk := fun q : After W5 => field_works q.w
      simp only [HGF.out] at hg1 hg2
      simp only [HGG.out] at hg3
      refine wp_region_after (by kernel_rfl) (by kernel_rfl) ?_
      repeat (go_big_quiet_step (first | (go_at_call 13; with_reducible exact calls_after _ (hg1 _)) | (go_at_call 14; first | (with_reducible exact calls_after _ (hg2 _)) | (with_reducible exact calls_after _ (hg3 _))) | (go_at_call 15; with_reducible exact calls_after _ (hwk _))))
      refine wpQuiet_nil ?_
      intro w9 hw'
      obtain ⟨⟨wq, h6⟩, hw''⟩ := hw'
      subst hw''
      have HF := Lib.hid (HB.out.trans (h6.mono HB.out.size))
      clear h6 hg1 hg2 hg3 hwk b00 b01 b02 b03 b04 b05 b10 b11 b12 b13 b14 b15 b20 b21 b22 b23 b24 b25
      go_wp2_with fail
      go_ret
      exact ⟨rfl, HF.out⟩
    | false =>
      obtain ⟨X, hX⟩ : ∃ X, w.heap.size = X := ⟨_, rfl⟩
      have HY0 := Lib.hid (alloc_block w (.cells #[.int .i64 lo, .int .i64 hi, .int .i64 ba, .int .i64 inf, .int .i64 sup, .int .i64 va] 23))
      have HB : Hid (Below w.heap.size w (w.alloc (.cells #[.int .i64 lo, .int .i64 hi, .int .i64 ba, .int .i64 inf, .int .i64 sup, .int .i64 va] 23))) := Lib.hid ((Below.refl _ _).alloc (Nat.le_refl _) _)
      have HHX := Lib.hid hX
      rw [hX] at HY0
      go_enter Try.func3, Try.ntmps3
      go_wp2_with fail
      clear hX
      generalize w.alloc (.cells #[.int .i64 lo, .int .i64 hi, .int .i64 ba, .int .i64 inf, .int .i64 sup, .int .i64 va] 23) = V0 at *
      refine (H1.out _).mono ?_
      rintro e1 w1 ⟨rfl, hb1⟩
      have hbn : Below w1.heap.size w1 (w1.alloc (.cells #[.int .i64 lo, .int .i64 hi, .int .i64 ba, .int .i64 inf, .int .i64 sup, .int .i64 va] 23)) := (Below.refl _ _).alloc (Nat.le_refl _) _
      replace HY0 := Lib.hid (block_later (block_later HY0.out hb1) hbn)
      have HY1 := Lib.hid (alloc_block w1 (.cells #[.int .i64 lo, .int .i64 hi, .int .i64 ba, .int .i64 inf, .int .i64 sup, .int .i64 va] 23))
      replace HB := Lib.hid (HB.out.trans ((hb1.trans (hbn.mono hb1.size)).mono HB.out.size))
      clear hbn hb1
      obtain ⟨b00, b01, b02, b03, b04, b05⟩ := fcells HY0.out
      go_wp2_with fail
      clear b00 b01 b02 b03 b04 b05
      generalize w1.alloc (.cells #[.int .i64 lo, .int .i64 hi, .int .i64 ba, .int .i64 inf, .int .i64 sup, .int .i64 va] 23) = V1 at *
      generalize w1.heap.size = Y1 at *
      refine (H2.out _).mono ?_
      rintro e2 w2 ⟨rfl, hb2⟩
      have HOO : Hid (w.heap.size ≤ w2.heap.size ∧ X ≠ w2.heap.size ∧ Y1 ≠ w2.heap.size) := Lib.hid ⟨(HB.out.trans (hb2.mono HB.out.size)).size, Nat.ne_of_lt (block_lt (block_later HY0.out hb2)), Nat.ne_of_lt (block_lt (block_later HY1.out hb2))⟩
      have hbn : Below w2.heap.size w2 (w2.alloc (.cells #[.int .i64 x1, .int .i64 x2, .int .i64 x3, .int .i64 x4, .int .i64 x5, .int .i64 x6] 23)) := (Below.refl _ _).alloc (Nat.le_refl _) _
      replace HY0 := Lib.hid (block_later (block_later HY0.out hb2) hbn)
      replace HY1 := Lib.hid (block_later (block_later HY1.out hb2) hbn)
      have HY2 := Lib.hid (alloc_block w2 (.cells #[.int .i64 x1, .int .i64 x2, .int .i64 x3, .int .i64 x4, .int .i64 x5, .int .i64 x6] 23))
      replace HB := Lib.hid (HB.out.trans ((hb2.trans (hbn.mono hb2.size)).mono HB.out.size))
      clear hbn hb2
      go_upto_region 4 with (fail)
      generalize w2.alloc (.cells #[.int .i64 x1, .int .i64 x2, .int .i64 x3, .int .i64 x4, .int .i64 x5, .int .i64 x6] 23) = V2 at *
      generalize w2.heap.size = Y2 at *
      clear H1 H2
      have hbd : SX w X Y1 #[.int .i64 lo, .int .i64 hi, .int .i64 ba, .int .i64 inf, .int .i64 sup, .int .i64 va] #[.int .i64 lo, .int .i64 hi, .int .i64 ba, .int .i64 inf, .int .i64 sup, .int .i64 va] V2.drew := ⟨below_drewN HB.out 1, HY0.out, HY1.out⟩
      have HD2 : Hid (V2.drew.heap[Y2]? = some (.cells #[.int .i64 x1, .int .i64 x2, .int .i64 x3, .int .i64 x4, .int .i64 x5, .int .i64 x6] 23 (0, 0))) := Lib.hid HY2.out
      have HO2 : Hid (w.heap.size ≤ Y2 ∧ X ≠ Y2 ∧ Y1 ≠ Y2) := Lib.hid HOO.out
      clear HY0 HY1 HY2 HB
      refine wp_region_held_drew (S := fun w' => Hid (SX w X Y1 #[.int .i64 lo, .int .i64 hi, .int .i64 ba, .int .i64 inf, .int .i64 sup, .int .i64 va] #[.int .i64 lo, .int .i64 hi, .int .i64 ba, .int .i64 inf, .int .i64 sup, .int .i64 va] w')) (by kernel_rfl) (Lib.hid hbd) (fun hHeld => ?_)
      clear hbd
      refine wpAnyH_take (i := 1) (oi := ⟨some 29, _, _, _, _, _⟩) (v := .int .i64 d) rfl (by kernel_rfl) (by kernel_rfl) (by kernel_rfl) (fun _ _ _ h => h) (Or.inl ⟨by rfl, fun w' hw' => ?_⟩) (by assumption) ?_
      · clear hHeld
        go_simp
      simp only [Act.put, List.setIfInBounds_toArray, List.set_cons_zero, List.set_cons_succ]
      refine wpAnyH_take (i := 2) (oi := ⟨some 30, _, _, _, _, _⟩) (v := .int .u8 a) rfl (by kernel_rfl) (by kernel_rfl) (by kernel_rfl) (fun _ _ _ h => h) (Or.inl ⟨by rfl, fun w' hw' => ?_⟩) (by assumption) ?_
      · clear hHeld
        go_simp
      simp only [Act.put, List.setIfInBounds_toArray, List.set_cons_zero, List.set_cons_succ]
      refine wpAnyH_take (i := 3) (oi := ⟨some 31, _, _, _, _, _⟩) (v := .int .u8 (a % 6)) rfl (by kernel_rfl) (by kernel_rfl) (by kernel_rfl) (fun _ _ _ h => h) (Or.inl ⟨by rfl, fun w' hw' => ?_⟩) (by assumption) ?_
      · clear hHeld
        go_simp
        exact Int.tmod_eq_emod_of_nonneg ha
      simp only [Act.put, List.setIfInBounds_toArray, List.set_cons_zero, List.set_cons_succ]
      refine wpAnyH_take (i := 4) (oi := ⟨some 32, _, _, _, _, _⟩) (v := .int .i64 (a % 6)) rfl (by kernel_rfl) (by kernel_rfl) (by kernel_rfl) (fun _ _ _ h => h) (Or.inl ⟨by rfl, fun w' hw' => ?_⟩) (by assumption) ?_
      · clear hHeld
        go_simp
      simp only [Act.put, List.setIfInBounds_toArray, List.set_cons_zero, List.set_cons_succ]
      refine wpAnyH_take (i := 0) (oi := ⟨some 28, _, _, _, _, _⟩) (v := .agg #[.int .i64 lo, .int .i64 hi, .int .i64 ba, .int .i64 inf, .int .i64 sup, .int .i64 va]) rfl (by kernel_rfl) (by kernel_rfl) (by kernel_rfl) (fun _ _ _ h => h) (Or.inl ⟨by rfl, fun w' hw' => ?_⟩) (by assumption) ?_
      · obtain ⟨c0, c1, c2, c3, c4, c5⟩ := fcells hw'.out.x
        clear hHeld
        go_simp
      simp only [Act.put, List.setIfInBounds_toArray, List.set_cons_zero, List.set_cons_succ]
      refine wpAnyH_ready (rs := [5]) (by kernel_rfl) (by simp) (AllReadyH.cons rfl (fun K hK => ?_) AllReadyH.nil)
      go_simp
      go_wp2_with fail
      refine (H3.out _).mono ?_
      rintro e3 w3 ⟨rfl, hb3⟩
      have hS3 : Hid (SX w X Y1 #[.int .i64 lo, .int .i64 hi, .int .i64 ba, .int .i64 inf, .int .i64 sup, .int .i64 va] #[.int .i64 lo, .int .i64 hi, .int .i64 ba, .int .i64 inf, .int .i64 sup, .int .i64 va] w3) := Lib.hid (hHeld.out.later hb3)
      have HD3 := Lib.hid (block_later HD2.out hb3)
      clear hb3
      go_wp2_with fail
      refine hK.out _ _ hS3 (fun hHeld2 => ?_)
      clear hS3 hK K hHeld HD2
      have hHeld := hHeld2
      clear hHeld2
      refine wpAnyH_ready (rs := [6]) (by kernel_rfl) (by simp) (AllReadyH.cons rfl (fun K hK => ?_) AllReadyH.nil)
      go_simp
      go_wp2_with fail
      refine (H4.out _).mono ?_
      rintro e4 w4 ⟨rfl, hb4⟩
      have hS4 : Hid (SX w X Y1 #[.int .i64 lo, .int .i64 hi, .int .i64 ba, .int .i64 inf, .int .i64 sup, .int .i64 va] #[.int .i64 lo, .int .i64 hi, .int .i64 ba, .int .i64 inf, .int .i64 sup, .int .i64 va] w4) := Lib.hid (hHeld.out.later hb4)
      have HD4 := Lib.hid (block_later HD3.out hb4)
      clear hb4
      go_wp2_with fail
      refine hK.out _ _ hS4 (fun hHeld2 => ?_)
      clear hS4 hK K hHeld HD3
      have hHeld := hHeld2
      clear hHeld2
      refine wpAnyH_take (i := 7) (oi := ⟨some 27, _, _, _, _, _⟩) (v := .tuple #[.agg #[.int .i64 lo, .int .i64 hi, .int .i64 ba, .int .i64 inf, .int .i64 sup, .int .i64 va], .int .i64 z]) rfl (by kernel_rfl) (by kernel_rfl) (by kernel_rfl) (fun _ _ _ h => h) (Or.inl ⟨by rfl, fun w' hw' => ?_⟩) (by assumption) ?_
      · clear hHeld
        go_simp
      simp only [Act.put, List.setIfInBounds_toArray, List.set_cons_zero, List.set_cons_succ]
      refine wpAnyH_take (i := 8) (oi := ⟨some 35, _, _, _, _, _⟩) (v := .agg #[.int .i64 lo, .int .i64 hi, .int .i64 ba, .int .i64 inf, .int .i64 sup, .int .i64 va]) rfl (by kernel_rfl) (by kernel_rfl) (by kernel_rfl) (fun _ _ _ h => h) (Or.inl ⟨by rfl, fun w' hw' => ?_⟩) (by assumption) ?_
      · clear hHeld
        go_simp
      simp only [Act.put, List.setIfInBounds_toArray, List.set_cons_zero, List.set_cons_succ]
      refine wpAnyH_take (i := 9) (oi := ⟨some 36, _, _, _, _, _⟩) (v := .int .i64 z) rfl (by kernel_rfl) (by kernel_rfl) (by kernel_rfl) (fun _ _ _ h => h) (Or.inl ⟨by rfl, fun w' hw' => ?_⟩) (by assumption) ?_
      · clear hHeld
        go_simp
      simp only [Act.put, List.setIfInBounds_toArray, List.set_cons_zero, List.set_cons_succ]
      refine wpAnyH_ready (rs := [10]) (by kernel_rfl) (by simp) (AllReadyH.cons rfl (fun K hK => ?_) AllReadyH.nil)
      obtain ⟨r0, r1, r2, r3, r4, r5⟩ := fcells HD4.out
      obtain ⟨f0, f1, f2, f3, f4, f5⟩ := ffree HD4.out
      have HY2 := Lib.hid (fstored (a' := .int .i64 lo) (b' := .int .i64 hi) (c' := .int .i64 ba) (d' := .int .i64 inf) (e' := .int .i64 sup) (f' := .int .i64 va) HD4.out)
      have hS5 : Hid (SX w X Y1 #[.int .i64 lo, .int .i64 hi, .int .i64 ba, .int .i64 inf, .int .i64 sup, .int .i64 va] #[.int .i64 lo, .int .i64 hi, .int .i64 ba, .int .i64 inf, .int .i64 sup, .int .i64 va] ((((((w4.setCell ⟨Y2, 0, none⟩ (.int .i64 lo)).setCell ⟨Y2, 1, none⟩ (.int .i64 hi)).setCell ⟨Y2, 2, none⟩ (.int .i64 ba)).setCell ⟨Y2, 3, none⟩ (.int .i64 inf)).setCell ⟨Y2, 4, none⟩ (.int .i64 sup)).setCell ⟨Y2, 5, none⟩ (.int .i64 va))) := Lib.hid (hHeld.out.stored HO2.out (.int .i64 lo) (.int .i64 hi) (.int .i64 ba) (.int .i64 inf) (.int .i64 sup) (.int .i64 va))
      go_simp
      go_wp2_with fail
      refine hK.out _ _ hS5 (fun hHeld2 => ?_)
      clear r0 r1 r2 r3 r4 r5 f0 f1 f2 f3 f4 f5 hS5 hK K hHeld HD4
      have HH5 := hHeld2
      have hHeld := hHeld2
      clear hHeld2
      refine wpAnyH_take (i := 11) (oi := ⟨some 10, _, _, _, _, _⟩) (v := .int .i64 z) rfl (by kernel_rfl) (by kernel_rfl) (by kernel_rfl) (fun _ _ _ h => h) (Or.inl ⟨by rfl, fun w' hw' => ?_⟩) (by assumption) ?_
      · clear hHeld
        go_simp
      simp only [Act.put, List.setIfInBounds_toArray, List.set_cons_zero, List.set_cons_succ]
      refine wpAnyH_done (by kernel_rfl) ?_ _
      generalize ((((((w4.setCell ⟨Y2, 0, none⟩ (.int .i64 lo)).setCell ⟨Y2, 1, none⟩ (.int .i64 hi)).setCell ⟨Y2, 2, none⟩ (.int .i64 ba)).setCell ⟨Y2, 3, none⟩ (.int .i64 inf)).setCell ⟨Y2, 4, none⟩ (.int .i64 sup)).setCell ⟨Y2, 5, none⟩ (.int .i64 va)) = W5 at *
      have HY0 := Lib.hid HH5.out.x
      have HY1 := Lib.hid HH5.out.y
      have HB := Lib.hid HH5.out.below
      clear HH5 H3 H4
      go_upto_region 5 with (fail)
      obtain ⟨b00, b01, b02, b03, b04, b05⟩ := fcells HY0.out
      obtain ⟨b10, b11, b12, b13, b14, b15⟩ := fcells HY1.out
      obtain ⟨b20, b21, b22, b23, b24, b25⟩ := fcells HY2.out
      replace b00 := fun q : After W5 => cell_after q b00
      replace b01 := fun q : After W5 => cell_after q b01
      replace b02 := fun q : After W5 => cell_after q b02
      replace b03 := fun q : After W5 => cell_after q b03
      replace b04 := fun q : After W5 => cell_after q b04
      replace b05 := fun q : After W5 => cell_after q b05
      replace b10 := fun q : After W5 => cell_after q b10
      replace b11 := fun q : After W5 => cell_after q b11
      replace b12 := fun q : After W5 => cell_after q b12
      replace b13 := fun q : After W5 => cell_after q b13
      replace b14 := fun q : After W5 => cell_after q b14
      replace b15 := fun q : After W5 => cell_after q b15
      replace b20 := fun q : After W5 => cell_after q b20
      replace b21 := fun q : After W5 => cell_after q b21
      replace b22 := fun q : After W5 => cell_after q b22
      replace b23 := fun q : After W5 => cell_after q b23
      replace b24 := fun q : After W5 => cell_after q b24
      replace b25 := fun q : After W5 => cell_after q b25
      have hg1 := fun q : After W5 => fgood_any ⟨lo, hi, ba, inf, sup, va⟩ q.w
      have hg2 := fun q : After W5 => rgood_any ⟨lo, hi, ba, inf, sup, va⟩ q.w
      have hg3 := fun q : After W5 => rgood_any ⟨lo, hi, ba, inf, sup, va⟩ q.w
      have hwk := fun q : After W5 => field_works q.w
      simp only [HGF.out] at hg1 hg2
      simp only [HGG.out] at hg3
      refine wp_region_after (by kernel_rfl) (by kernel_rfl) ?_
      repeat (go_big_quiet_step (first | (go_at_call 13; with_reducible exact calls_after _ (hg1 _)) | (go_at_call 14; first | (with_reducible exact calls_after _ (hg2 _)) | (with_reducible exact calls_after _ (hg3 _))) | (go_at_call 15; with_reducible exact calls_after _ (hwk _))))
      refine wpQuiet_nil ?_
      intro w9 hw'
      obtain ⟨⟨wq, h6⟩, hw''⟩ := hw'
      subst hw''
      have HF := Lib.hid (HB.out.trans (h6.mono HB.out.size))
      clear h6 hg1 hg2 hg3 hwk b00 b01 b02 b03 b04 b05 b10 b11 b12 b13 b14 b15 b20 b21 b22 b23 b24 b25
      go_wp2_with fail
      go_ret
      exact ⟨rfl, HF.out⟩
theorem law_fdoes (f : Fv) (d a : Int) (w : World) (hf : Fok f) (hd : I64 d) (ha : 0 ≤ a) :
    Calls Try.prog 3 #[.agg (fcs f), .int .i64 d, .int .u8 a] w fun e w' => e = .returned (.bool true) ∧ Below w.heap.size w w' := by
  obtain ⟨d1, d2, d3⟩ := do_good (c := a % 6) (d := d) hf
  by_cases hc : a % 6 = 0
  · refine does_grant f (doF (a % 6) f d) d a (doE (a % 6) f d) w (goodF f) ha hc (fun w => do_any a d f w ha hf hd) (fun w => ?_) rfl d1 d2 d3
    rw [hc]
    exact rgrant_any f d w hf hd
  · obtain ⟨m1, m2, m3, m4⟩ := mv_k3 (a % 6)
    refine does_move f (doF (a % 6) f d) (grantF f d) d a (doE (a % 6) f d) (grantE f d) _ _ _ _ w (goodF f) ha (by omega) (fun w => do_any a d f w ha hf hd) (fun w => rgrant_any f d w hf hd) (fun w => moved_any (a % 6) w (by omega)) (fun w => ?_) rfl d1 d2 d3
    have h := rdo_any f d (mvV (a % 6)) (mvB (a % 6)) (mvN (a % 6)) (mvF (a % 6)) w hf hd m1 m2 m3 m4
    rw [show moveF f d (mvV (a % 6)) (mvB (a % 6)) (mvN (a % 6)) (mvF (a % 6)) = doF (a % 6) f d from (if_neg hc).symm, show moveE f d (mvV (a % 6)) (mvB (a % 6)) (mvN (a % 6)) (mvF (a % 6)) = doE (a % 6) f d from (if_neg hc).symm] at h
    exact h
end Go.Proofs.Ytgjfgabagfhnoaa
