/-
  KeyOrder answers true of any three keys, and writes nothing that was there: the tied card. No condition but the card's own: the library's variables lie as the program's text lays them.
-/
import Derived.Test.YthkfijgdopjjjaaDoorRows
import Derived.Test.YthkfijgdopjjjaaDoorCards
import Derived.Test.YthkfijgdopjjjaaDoorTie
import Derived.SevenTiedAt
import Derived.Stop.Joined
import Derived.Test.YthkfijgdopjjjaaDoorKeyEq
import Derived.WalkKit
import Derived.ProofKit
import Derived.OpenShut
import Derived.ShutString
import Derived.ChangeOld
import Derived.Below
namespace Go.Proofs.YthkfijgdopjjjaaDoor.keyOrder
open Go.ChangeShapes Go.WideShapes Go.ChangeAt Go.RowKit
open Go.ChangeMaps (open_string shut_string)
set_option linter.unusedVariables false

theorem own : ownKnob Tryd.prog.godebug = none := by kernel_rfl
theorem laidOut : laidOutB Tryd.prog = true := by kernel_rfl

/-- The three boxes. -/
structure Boxes (w : World) (X Y Z : Nat) (k0 k1 k2 : K) : Prop where
  b0 : w.heap[X]? = some (.cells #[.int .u8 k0.1, .int .u8 k0.2.1, .int .u8 k0.2.2] 23 (0, 0))
  b1 : w.heap[Y]? = some (.cells #[.int .u8 k1.1, .int .u8 k1.2.1, .int .u8 k1.2.2] 23 (0, 0))
  b2 : w.heap[Z]? = some (.cells #[.int .u8 k2.1, .int .u8 k2.2.1, .int .u8 k2.2.2] 23 (0, 0))
theorem Boxes.later {w w' : World} {X Y Z : Nat} {k0 k1 k2 : K} (h : Boxes w X Y Z k0 k1 k2) (hb : Below w.heap.size w w') : Boxes w' X Y Z k0 k1 k2 :=
  ⟨block_later h.b0 hb, block_later h.b1 hb, block_later h.b2 hb⟩
theorem Boxes.c0 {w : World} {X Y Z : Nat} {k0 k1 k2 : K} (h : Boxes w X Y Z k0 k1 k2) (j : Nat) (v : Value) (hj : #[Value.int .u8 k0.1, .int .u8 k0.2.1, .int .u8 k0.2.2][j]? = some v) : w.cell? ⟨X, j, none⟩ = some v := block_cell h.b0 hj
theorem Boxes.c1 {w : World} {X Y Z : Nat} {k0 k1 k2 : K} (h : Boxes w X Y Z k0 k1 k2) (j : Nat) (v : Value) (hj : #[Value.int .u8 k1.1, .int .u8 k1.2.1, .int .u8 k1.2.2][j]? = some v) : w.cell? ⟨Y, j, none⟩ = some v := block_cell h.b1 hj
theorem Boxes.c2 {w : World} {X Y Z : Nat} {k0 k1 k2 : K} (h : Boxes w X Y Z k0 k1 k2) (j : Nat) (v : Value) (hj : #[Value.int .u8 k2.1, .int .u8 k2.2.1, .int .u8 k2.2.2][j]? = some v) : w.cell? ⟨Z, j, none⟩ = some v := block_cell h.b2 hj
theorem order_trans (a b c : K) (h1 : cmpI a b ≤ 0) (h2 : cmpI b c ≤ 0) : cmpI a c ≤ 0 := by
  have g1 := cmp_less b a
  have g2 := cmp_less c b
  have g3 := cmp_less c a
  have n1 := cmp_neg a b
  have n2 := cmp_neg b c
  have n3 := cmp_neg a c
  have f1 : lessB b a = false := by cases h : lessB b a with | false => rfl | true => have := g1.2 h; omega
  have f2 : lessB c b = false := by cases h : lessB c b with | false => rfl | true => have := g2.2 h; omega
  have f3 := less_ntrans c b a f2 f1
  have : ¬ cmpI c a < 0 := fun h => by rw [g3, f3] at h; cases h
  omega
theorem boxes_made (w : World) (k0 k1 k2 : K) : Boxes (((w.alloc (.cells #[.int .u8 k0.1, .int .u8 k0.2.1, .int .u8 k0.2.2] 23)).alloc (.cells #[.int .u8 k1.1, .int .u8 k1.2.1, .int .u8 k1.2.2] 23)).alloc (.cells #[.int .u8 k2.1, .int .u8 k2.2.1, .int .u8 k2.2.2] 23)) w.heap.size (w.heap.size + 1) (w.heap.size + 1 + 1) k0 k1 k2 :=
  ⟨block_later (block_later (alloc_block _ _) ((Below.refl _ _).alloc (Nat.le_refl _) _)) ((Below.refl _ _).alloc (Nat.le_refl _) _), by
    have h := block_later (alloc_block (w.alloc (.cells #[.int .u8 k0.1, .int .u8 k0.2.1, .int .u8 k0.2.2] 23)) (.cells #[.int .u8 k1.1, .int .u8 k1.2.1, .int .u8 k1.2.2] 23)) ((Below.refl _ _).alloc (Nat.le_refl _) (.cells #[.int .u8 k2.1, .int .u8 k2.2.1, .int .u8 k2.2.2] 23))
    rw [show (w.alloc (.cells #[.int .u8 k0.1, .int .u8 k0.2.1, .int .u8 k0.2.2] 23)).heap.size = w.heap.size + 1 by simp] at h
    exact h, by
    have h := alloc_block ((w.alloc (.cells #[.int .u8 k0.1, .int .u8 k0.2.1, .int .u8 k0.2.2] 23)).alloc (.cells #[.int .u8 k1.1, .int .u8 k1.2.1, .int .u8 k1.2.2] 23)) (.cells #[.int .u8 k2.1, .int .u8 k2.2.1, .int .u8 k2.2.2] 23)
    rw [show ((w.alloc (.cells #[.int .u8 k0.1, .int .u8 k0.2.1, .int .u8 k0.2.2] 23)).alloc (.cells #[.int .u8 k1.1, .int .u8 k1.2.1, .int .u8 k1.2.2] 23)).heap.size = w.heap.size + 1 + 1 by simp] at h
    exact h⟩

set_option maxHeartbeats 1000000 in
set_option maxRecDepth 100000 in
theorem walk (k0 : K) (k1 : K) (k2 : K) (w : World) (hv : Vars w) (w0 : Kok k0) (w1 : Kok k1) (w2 : Kok k2) :
    Calls Tryd.prog 4 #[.agg #[.int .u8 k0.1, .int .u8 k0.2.1, .int .u8 k0.2.2], .agg #[.int .u8 k1.1, .int .u8 k1.2.1, .int .u8 k1.2.2], .agg #[.int .u8 k2.1, .int .u8 k2.2.1, .int .u8 k2.2.2]] w fun e w' => e = .returned (.bool true) ∧ Below w.heap.size w w' := by
  have HV := Lib.hid hv
  clear hv w0 w1 w2
  have C01 := fun W => compare_any k0 k1 W
  have C10 := fun W => compare_any k1 k0 W
  have C12 := fun W => compare_any k1 k2 W
  have C02 := fun W => compare_any k0 k2 W
  have L01 := fun W => less_any k0 k1 W
  have L10 := fun W => less_any k1 k0 W
  have q01 := fun W => key_eql k0.1 k0.2.1 k0.2.2 k1.1 k1.2.1 k1.2.2 W
  have hneg := cmp_neg k0 k1
  have hval := cmp_values k0 k1
  have htr := order_trans k0 k1 k2
  have has := less_asymm k0 k1
  have hq : decide (((k0.1, k0.2.1, k0.2.2) : K) = (k1.1, k1.2.1, k1.2.2)) = decide (cmpI k0 k1 = 0) := decide_eq_decide.2 (cmp_zero k0 k1).symm
  rw [hneg] at C10
  rw [hq] at q01
  clear hneg hq
  generalize cmpI k0 k1 = p at *
  generalize cmpI k1 k2 = r at *
  generalize cmpI k0 k2 = s at *
  generalize lessB k0 k1 = l at *
  generalize lessB k1 k0 = m at *
  have HHV := Lib.hid hval
  have HTR := Lib.hid htr
  have HAS := Lib.hid has
  clear hval htr has
  cases l with
  | true =>
    have hm := HAS.out rfl
    subst hm
    have hp : p = -1 := HHV.out
    subst hp
    clear HHV HAS
    by_cases hr : 0 < r
    · have hr1 : decide (0 < r) = true := by simpa using hr
      go_enter Tryd.func4, Tryd.ntmps4
      go_wp2_with fail
      have HGA := Lib.hid ((((Gr.refl w).alloc (.cells #[.int .u8 k0.1, .int .u8 k0.2.1, .int .u8 k0.2.2] 23)).alloc (.cells #[.int .u8 k1.1, .int .u8 k1.2.1, .int .u8 k1.2.2] 23)).alloc (.cells #[.int .u8 k2.1, .int .u8 k2.2.1, .int .u8 k2.2.2] 23))
      have HBA : Hid (Boxes (((w.alloc (.cells #[.int .u8 k0.1, .int .u8 k0.2.1, .int .u8 k0.2.2] 23)).alloc (.cells #[.int .u8 k1.1, .int .u8 k1.2.1, .int .u8 k1.2.2] 23)).alloc (.cells #[.int .u8 k2.1, .int .u8 k2.2.1, .int .u8 k2.2.2] 23)) w.heap.size (w.heap.size + 1) (w.heap.size + 1 + 1) k0 k1 k2) := Lib.hid (boxes_made w k0 k1 k2)
      generalize ((w.alloc (.cells #[.int .u8 k0.1, .int .u8 k0.2.1, .int .u8 k0.2.2] 23)).alloc (.cells #[.int .u8 k1.1, .int .u8 k1.2.1, .int .u8 k1.2.2] 23)).alloc (.cells #[.int .u8 k2.1, .int .u8 k2.2.1, .int .u8 k2.2.2] 23) = WA at *
      generalize w.heap.size = X at *
      have c00 := HBA.out.c0 0 (.int .u8 k0.1) rfl
      have c01 := HBA.out.c0 1 (.int .u8 k0.2.1) rfl
      have c02 := HBA.out.c0 2 (.int .u8 k0.2.2) rfl
      have c10 := HBA.out.c1 0 (.int .u8 k1.1) rfl
      have c11 := HBA.out.c1 1 (.int .u8 k1.2.1) rfl
      have c12 := HBA.out.c1 2 (.int .u8 k1.2.2) rfl
      have c20 := HBA.out.c2 0 (.int .u8 k2.1) rfl
      have c21 := HBA.out.c2 1 (.int .u8 k2.2.1) rfl
      have c22 := HBA.out.c2 2 (.int .u8 k2.2.2) rfl
      refine (C01 _).mono ?_
      rintro e WB ⟨rfl, h⟩
      have HGWB := Lib.hid (HGA.out.trans h)
      have HBWB := Lib.hid (HBA.out.later h.below)
      clear c00 c01 c02 c10 c11 c12 c20 c21 c22
      clear h
      have c00 := HBWB.out.c0 0 (.int .u8 k0.1) rfl
      have c01 := HBWB.out.c0 1 (.int .u8 k0.2.1) rfl
      have c02 := HBWB.out.c0 2 (.int .u8 k0.2.2) rfl
      have c10 := HBWB.out.c1 0 (.int .u8 k1.1) rfl
      have c11 := HBWB.out.c1 1 (.int .u8 k1.2.1) rfl
      have c12 := HBWB.out.c1 2 (.int .u8 k1.2.2) rfl
      have c20 := HBWB.out.c2 0 (.int .u8 k2.1) rfl
      have c21 := HBWB.out.c2 1 (.int .u8 k2.2.1) rfl
      have c22 := HBWB.out.c2 2 (.int .u8 k2.2.2) rfl
      go_wp2_with fail
      refine (L01 _).mono ?_
      rintro e WC ⟨rfl, h⟩
      have HGWC := Lib.hid (HGWB.out.trans h)
      have HBWC := Lib.hid (HBWB.out.later h.below)
      clear c00 c01 c02 c10 c11 c12 c20 c21 c22
      clear h
      have c00 := HBWC.out.c0 0 (.int .u8 k0.1) rfl
      have c01 := HBWC.out.c0 1 (.int .u8 k0.2.1) rfl
      have c02 := HBWC.out.c0 2 (.int .u8 k0.2.2) rfl
      have c10 := HBWC.out.c1 0 (.int .u8 k1.1) rfl
      have c11 := HBWC.out.c1 1 (.int .u8 k1.2.1) rfl
      have c12 := HBWC.out.c1 2 (.int .u8 k1.2.2) rfl
      have c20 := HBWC.out.c2 0 (.int .u8 k2.1) rfl
      have c21 := HBWC.out.c2 1 (.int .u8 k2.2.1) rfl
      have c22 := HBWC.out.c2 2 (.int .u8 k2.2.2) rfl
      go_wp2_with fail
      refine (L10 _).mono ?_
      rintro e WD ⟨rfl, h⟩
      have HGWD := Lib.hid (HGWC.out.trans h)
      have HBWD := Lib.hid (HBWC.out.later h.below)
      clear c00 c01 c02 c10 c11 c12 c20 c21 c22
      clear h
      have c00 := HBWD.out.c0 0 (.int .u8 k0.1) rfl
      have c01 := HBWD.out.c0 1 (.int .u8 k0.2.1) rfl
      have c02 := HBWD.out.c0 2 (.int .u8 k0.2.2) rfl
      have c10 := HBWD.out.c1 0 (.int .u8 k1.1) rfl
      have c11 := HBWD.out.c1 1 (.int .u8 k1.2.1) rfl
      have c12 := HBWD.out.c1 2 (.int .u8 k1.2.2) rfl
      have c20 := HBWD.out.c2 0 (.int .u8 k2.1) rfl
      have c21 := HBWD.out.c2 1 (.int .u8 k2.2.1) rfl
      have c22 := HBWD.out.c2 2 (.int .u8 k2.2.2) rfl
      go_wp2_with fail
      refine (C10 _).mono ?_
      rintro e WE ⟨rfl, h⟩
      have HGWE := Lib.hid (HGWD.out.trans h)
      have HBWE := Lib.hid (HBWD.out.later h.below)
      clear c00 c01 c02 c10 c11 c12 c20 c21 c22
      clear h
      have c00 := HBWE.out.c0 0 (.int .u8 k0.1) rfl
      have c01 := HBWE.out.c0 1 (.int .u8 k0.2.1) rfl
      have c02 := HBWE.out.c0 2 (.int .u8 k0.2.2) rfl
      have c10 := HBWE.out.c1 0 (.int .u8 k1.1) rfl
      have c11 := HBWE.out.c1 1 (.int .u8 k1.2.1) rfl
      have c12 := HBWE.out.c1 2 (.int .u8 k1.2.2) rfl
      have c20 := HBWE.out.c2 0 (.int .u8 k2.1) rfl
      have c21 := HBWE.out.c2 1 (.int .u8 k2.2.1) rfl
      have c22 := HBWE.out.c2 2 (.int .u8 k2.2.2) rfl
      go_wp2_with fail
      refine (C12 _).mono ?_
      rintro e WF ⟨rfl, h⟩
      have HGWF := Lib.hid (HGWE.out.trans h)
      have HBWF := Lib.hid (HBWE.out.later h.below)
      clear c00 c01 c02 c10 c11 c12 c20 c21 c22
      clear h
      have c00 := HBWF.out.c0 0 (.int .u8 k0.1) rfl
      have c01 := HBWF.out.c0 1 (.int .u8 k0.2.1) rfl
      have c02 := HBWF.out.c0 2 (.int .u8 k0.2.2) rfl
      have c10 := HBWF.out.c1 0 (.int .u8 k1.1) rfl
      have c11 := HBWF.out.c1 1 (.int .u8 k1.2.1) rfl
      have c12 := HBWF.out.c1 2 (.int .u8 k1.2.2) rfl
      have c20 := HBWF.out.c2 0 (.int .u8 k2.1) rfl
      have c21 := HBWF.out.c2 1 (.int .u8 k2.2.1) rfl
      have c22 := HBWF.out.c2 2 (.int .u8 k2.2.2) rfl
      go_wp2_with fail
      refine (works_any _ (HV.out.gr HGWF.out)).mono ?_
      rintro e WZ ⟨rfl, h⟩
      have HZ := Lib.hid (HGWF.out.below.trans (h.mono HGWF.out.below.size))
      clear c00 c01 c02 c10 c11 c12 c20 c21 c22
      clear h
      go_wp2_with fail
      go_ret
      exact ⟨rfl, HZ.out⟩
    · have hr1 : decide (0 < r) = false := by simpa using hr
      have hs : s ≤ 0 := HTR.out (by omega) (by omega)
      go_enter Tryd.func4, Tryd.ntmps4
      go_wp2_with fail
      have HGA := Lib.hid ((((Gr.refl w).alloc (.cells #[.int .u8 k0.1, .int .u8 k0.2.1, .int .u8 k0.2.2] 23)).alloc (.cells #[.int .u8 k1.1, .int .u8 k1.2.1, .int .u8 k1.2.2] 23)).alloc (.cells #[.int .u8 k2.1, .int .u8 k2.2.1, .int .u8 k2.2.2] 23))
      have HBA : Hid (Boxes (((w.alloc (.cells #[.int .u8 k0.1, .int .u8 k0.2.1, .int .u8 k0.2.2] 23)).alloc (.cells #[.int .u8 k1.1, .int .u8 k1.2.1, .int .u8 k1.2.2] 23)).alloc (.cells #[.int .u8 k2.1, .int .u8 k2.2.1, .int .u8 k2.2.2] 23)) w.heap.size (w.heap.size + 1) (w.heap.size + 1 + 1) k0 k1 k2) := Lib.hid (boxes_made w k0 k1 k2)
      generalize ((w.alloc (.cells #[.int .u8 k0.1, .int .u8 k0.2.1, .int .u8 k0.2.2] 23)).alloc (.cells #[.int .u8 k1.1, .int .u8 k1.2.1, .int .u8 k1.2.2] 23)).alloc (.cells #[.int .u8 k2.1, .int .u8 k2.2.1, .int .u8 k2.2.2] 23) = WA at *
      generalize w.heap.size = X at *
      have c00 := HBA.out.c0 0 (.int .u8 k0.1) rfl
      have c01 := HBA.out.c0 1 (.int .u8 k0.2.1) rfl
      have c02 := HBA.out.c0 2 (.int .u8 k0.2.2) rfl
      have c10 := HBA.out.c1 0 (.int .u8 k1.1) rfl
      have c11 := HBA.out.c1 1 (.int .u8 k1.2.1) rfl
      have c12 := HBA.out.c1 2 (.int .u8 k1.2.2) rfl
      have c20 := HBA.out.c2 0 (.int .u8 k2.1) rfl
      have c21 := HBA.out.c2 1 (.int .u8 k2.2.1) rfl
      have c22 := HBA.out.c2 2 (.int .u8 k2.2.2) rfl
      refine (C01 _).mono ?_
      rintro e WB ⟨rfl, h⟩
      have HGWB := Lib.hid (HGA.out.trans h)
      have HBWB := Lib.hid (HBA.out.later h.below)
      clear c00 c01 c02 c10 c11 c12 c20 c21 c22
      clear h
      have c00 := HBWB.out.c0 0 (.int .u8 k0.1) rfl
      have c01 := HBWB.out.c0 1 (.int .u8 k0.2.1) rfl
      have c02 := HBWB.out.c0 2 (.int .u8 k0.2.2) rfl
      have c10 := HBWB.out.c1 0 (.int .u8 k1.1) rfl
      have c11 := HBWB.out.c1 1 (.int .u8 k1.2.1) rfl
      have c12 := HBWB.out.c1 2 (.int .u8 k1.2.2) rfl
      have c20 := HBWB.out.c2 0 (.int .u8 k2.1) rfl
      have c21 := HBWB.out.c2 1 (.int .u8 k2.2.1) rfl
      have c22 := HBWB.out.c2 2 (.int .u8 k2.2.2) rfl
      go_wp2_with fail
      refine (L01 _).mono ?_
      rintro e WC ⟨rfl, h⟩
      have HGWC := Lib.hid (HGWB.out.trans h)
      have HBWC := Lib.hid (HBWB.out.later h.below)
      clear c00 c01 c02 c10 c11 c12 c20 c21 c22
      clear h
      have c00 := HBWC.out.c0 0 (.int .u8 k0.1) rfl
      have c01 := HBWC.out.c0 1 (.int .u8 k0.2.1) rfl
      have c02 := HBWC.out.c0 2 (.int .u8 k0.2.2) rfl
      have c10 := HBWC.out.c1 0 (.int .u8 k1.1) rfl
      have c11 := HBWC.out.c1 1 (.int .u8 k1.2.1) rfl
      have c12 := HBWC.out.c1 2 (.int .u8 k1.2.2) rfl
      have c20 := HBWC.out.c2 0 (.int .u8 k2.1) rfl
      have c21 := HBWC.out.c2 1 (.int .u8 k2.2.1) rfl
      have c22 := HBWC.out.c2 2 (.int .u8 k2.2.2) rfl
      go_wp2_with fail
      refine (L10 _).mono ?_
      rintro e WD ⟨rfl, h⟩
      have HGWD := Lib.hid (HGWC.out.trans h)
      have HBWD := Lib.hid (HBWC.out.later h.below)
      clear c00 c01 c02 c10 c11 c12 c20 c21 c22
      clear h
      have c00 := HBWD.out.c0 0 (.int .u8 k0.1) rfl
      have c01 := HBWD.out.c0 1 (.int .u8 k0.2.1) rfl
      have c02 := HBWD.out.c0 2 (.int .u8 k0.2.2) rfl
      have c10 := HBWD.out.c1 0 (.int .u8 k1.1) rfl
      have c11 := HBWD.out.c1 1 (.int .u8 k1.2.1) rfl
      have c12 := HBWD.out.c1 2 (.int .u8 k1.2.2) rfl
      have c20 := HBWD.out.c2 0 (.int .u8 k2.1) rfl
      have c21 := HBWD.out.c2 1 (.int .u8 k2.2.1) rfl
      have c22 := HBWD.out.c2 2 (.int .u8 k2.2.2) rfl
      go_wp2_with fail
      refine (C10 _).mono ?_
      rintro e WE ⟨rfl, h⟩
      have HGWE := Lib.hid (HGWD.out.trans h)
      have HBWE := Lib.hid (HBWD.out.later h.below)
      clear c00 c01 c02 c10 c11 c12 c20 c21 c22
      clear h
      have c00 := HBWE.out.c0 0 (.int .u8 k0.1) rfl
      have c01 := HBWE.out.c0 1 (.int .u8 k0.2.1) rfl
      have c02 := HBWE.out.c0 2 (.int .u8 k0.2.2) rfl
      have c10 := HBWE.out.c1 0 (.int .u8 k1.1) rfl
      have c11 := HBWE.out.c1 1 (.int .u8 k1.2.1) rfl
      have c12 := HBWE.out.c1 2 (.int .u8 k1.2.2) rfl
      have c20 := HBWE.out.c2 0 (.int .u8 k2.1) rfl
      have c21 := HBWE.out.c2 1 (.int .u8 k2.2.1) rfl
      have c22 := HBWE.out.c2 2 (.int .u8 k2.2.2) rfl
      go_wp2_with fail
      refine (C12 _).mono ?_
      rintro e WF ⟨rfl, h⟩
      have HGWF := Lib.hid (HGWE.out.trans h)
      have HBWF := Lib.hid (HBWE.out.later h.below)
      clear c00 c01 c02 c10 c11 c12 c20 c21 c22
      clear h
      have c00 := HBWF.out.c0 0 (.int .u8 k0.1) rfl
      have c01 := HBWF.out.c0 1 (.int .u8 k0.2.1) rfl
      have c02 := HBWF.out.c0 2 (.int .u8 k0.2.2) rfl
      have c10 := HBWF.out.c1 0 (.int .u8 k1.1) rfl
      have c11 := HBWF.out.c1 1 (.int .u8 k1.2.1) rfl
      have c12 := HBWF.out.c1 2 (.int .u8 k1.2.2) rfl
      have c20 := HBWF.out.c2 0 (.int .u8 k2.1) rfl
      have c21 := HBWF.out.c2 1 (.int .u8 k2.2.1) rfl
      have c22 := HBWF.out.c2 2 (.int .u8 k2.2.2) rfl
      go_wp2_with fail
      refine (C02 _).mono ?_
      rintro e WG ⟨rfl, h⟩
      have HGWG := Lib.hid (HGWF.out.trans h)
      have HBWG := Lib.hid (HBWF.out.later h.below)
      clear c00 c01 c02 c10 c11 c12 c20 c21 c22
      clear h
      have c00 := HBWG.out.c0 0 (.int .u8 k0.1) rfl
      have c01 := HBWG.out.c0 1 (.int .u8 k0.2.1) rfl
      have c02 := HBWG.out.c0 2 (.int .u8 k0.2.2) rfl
      have c10 := HBWG.out.c1 0 (.int .u8 k1.1) rfl
      have c11 := HBWG.out.c1 1 (.int .u8 k1.2.1) rfl
      have c12 := HBWG.out.c1 2 (.int .u8 k1.2.2) rfl
      have c20 := HBWG.out.c2 0 (.int .u8 k2.1) rfl
      have c21 := HBWG.out.c2 1 (.int .u8 k2.2.1) rfl
      have c22 := HBWG.out.c2 2 (.int .u8 k2.2.2) rfl
      go_wp2_with fail
      refine (works_any _ (HV.out.gr HGWG.out)).mono ?_
      rintro e WZ ⟨rfl, h⟩
      have HZ := Lib.hid (HGWG.out.below.trans (h.mono HGWG.out.below.size))
      clear c00 c01 c02 c10 c11 c12 c20 c21 c22
      clear h
      go_wp2_with fail
      go_ret
      exact ⟨rfl, HZ.out⟩
  | false =>
    cases m with
    | true =>
      have hp : p = 1 := HHV.out
      subst hp
      clear HHV HAS
      go_enter Tryd.func4, Tryd.ntmps4
      go_wp2_with fail
      have HGA := Lib.hid ((((Gr.refl w).alloc (.cells #[.int .u8 k0.1, .int .u8 k0.2.1, .int .u8 k0.2.2] 23)).alloc (.cells #[.int .u8 k1.1, .int .u8 k1.2.1, .int .u8 k1.2.2] 23)).alloc (.cells #[.int .u8 k2.1, .int .u8 k2.2.1, .int .u8 k2.2.2] 23))
      have HBA : Hid (Boxes (((w.alloc (.cells #[.int .u8 k0.1, .int .u8 k0.2.1, .int .u8 k0.2.2] 23)).alloc (.cells #[.int .u8 k1.1, .int .u8 k1.2.1, .int .u8 k1.2.2] 23)).alloc (.cells #[.int .u8 k2.1, .int .u8 k2.2.1, .int .u8 k2.2.2] 23)) w.heap.size (w.heap.size + 1) (w.heap.size + 1 + 1) k0 k1 k2) := Lib.hid (boxes_made w k0 k1 k2)
      generalize ((w.alloc (.cells #[.int .u8 k0.1, .int .u8 k0.2.1, .int .u8 k0.2.2] 23)).alloc (.cells #[.int .u8 k1.1, .int .u8 k1.2.1, .int .u8 k1.2.2] 23)).alloc (.cells #[.int .u8 k2.1, .int .u8 k2.2.1, .int .u8 k2.2.2] 23) = WA at *
      generalize w.heap.size = X at *
      have c00 := HBA.out.c0 0 (.int .u8 k0.1) rfl
      have c01 := HBA.out.c0 1 (.int .u8 k0.2.1) rfl
      have c02 := HBA.out.c0 2 (.int .u8 k0.2.2) rfl
      have c10 := HBA.out.c1 0 (.int .u8 k1.1) rfl
      have c11 := HBA.out.c1 1 (.int .u8 k1.2.1) rfl
      have c12 := HBA.out.c1 2 (.int .u8 k1.2.2) rfl
      have c20 := HBA.out.c2 0 (.int .u8 k2.1) rfl
      have c21 := HBA.out.c2 1 (.int .u8 k2.2.1) rfl
      have c22 := HBA.out.c2 2 (.int .u8 k2.2.2) rfl
      refine (C01 _).mono ?_
      rintro e WB ⟨rfl, h⟩
      have HGWB := Lib.hid (HGA.out.trans h)
      have HBWB := Lib.hid (HBA.out.later h.below)
      clear c00 c01 c02 c10 c11 c12 c20 c21 c22
      clear h
      have c00 := HBWB.out.c0 0 (.int .u8 k0.1) rfl
      have c01 := HBWB.out.c0 1 (.int .u8 k0.2.1) rfl
      have c02 := HBWB.out.c0 2 (.int .u8 k0.2.2) rfl
      have c10 := HBWB.out.c1 0 (.int .u8 k1.1) rfl
      have c11 := HBWB.out.c1 1 (.int .u8 k1.2.1) rfl
      have c12 := HBWB.out.c1 2 (.int .u8 k1.2.2) rfl
      have c20 := HBWB.out.c2 0 (.int .u8 k2.1) rfl
      have c21 := HBWB.out.c2 1 (.int .u8 k2.2.1) rfl
      have c22 := HBWB.out.c2 2 (.int .u8 k2.2.2) rfl
      go_wp2_with fail
      refine (L01 _).mono ?_
      rintro e WC ⟨rfl, h⟩
      have HGWC := Lib.hid (HGWB.out.trans h)
      have HBWC := Lib.hid (HBWB.out.later h.below)
      clear c00 c01 c02 c10 c11 c12 c20 c21 c22
      clear h
      have c00 := HBWC.out.c0 0 (.int .u8 k0.1) rfl
      have c01 := HBWC.out.c0 1 (.int .u8 k0.2.1) rfl
      have c02 := HBWC.out.c0 2 (.int .u8 k0.2.2) rfl
      have c10 := HBWC.out.c1 0 (.int .u8 k1.1) rfl
      have c11 := HBWC.out.c1 1 (.int .u8 k1.2.1) rfl
      have c12 := HBWC.out.c1 2 (.int .u8 k1.2.2) rfl
      have c20 := HBWC.out.c2 0 (.int .u8 k2.1) rfl
      have c21 := HBWC.out.c2 1 (.int .u8 k2.2.1) rfl
      have c22 := HBWC.out.c2 2 (.int .u8 k2.2.2) rfl
      go_wp2_with fail
      refine (L10 _).mono ?_
      rintro e WD ⟨rfl, h⟩
      have HGWD := Lib.hid (HGWC.out.trans h)
      have HBWD := Lib.hid (HBWC.out.later h.below)
      clear c00 c01 c02 c10 c11 c12 c20 c21 c22
      clear h
      have c00 := HBWD.out.c0 0 (.int .u8 k0.1) rfl
      have c01 := HBWD.out.c0 1 (.int .u8 k0.2.1) rfl
      have c02 := HBWD.out.c0 2 (.int .u8 k0.2.2) rfl
      have c10 := HBWD.out.c1 0 (.int .u8 k1.1) rfl
      have c11 := HBWD.out.c1 1 (.int .u8 k1.2.1) rfl
      have c12 := HBWD.out.c1 2 (.int .u8 k1.2.2) rfl
      have c20 := HBWD.out.c2 0 (.int .u8 k2.1) rfl
      have c21 := HBWD.out.c2 1 (.int .u8 k2.2.1) rfl
      have c22 := HBWD.out.c2 2 (.int .u8 k2.2.2) rfl
      go_wp2_with fail
      refine (C10 _).mono ?_
      rintro e WE ⟨rfl, h⟩
      have HGWE := Lib.hid (HGWD.out.trans h)
      have HBWE := Lib.hid (HBWD.out.later h.below)
      clear c00 c01 c02 c10 c11 c12 c20 c21 c22
      clear h
      have c00 := HBWE.out.c0 0 (.int .u8 k0.1) rfl
      have c01 := HBWE.out.c0 1 (.int .u8 k0.2.1) rfl
      have c02 := HBWE.out.c0 2 (.int .u8 k0.2.2) rfl
      have c10 := HBWE.out.c1 0 (.int .u8 k1.1) rfl
      have c11 := HBWE.out.c1 1 (.int .u8 k1.2.1) rfl
      have c12 := HBWE.out.c1 2 (.int .u8 k1.2.2) rfl
      have c20 := HBWE.out.c2 0 (.int .u8 k2.1) rfl
      have c21 := HBWE.out.c2 1 (.int .u8 k2.2.1) rfl
      have c22 := HBWE.out.c2 2 (.int .u8 k2.2.2) rfl
      go_wp2_with fail
      refine (works_any _ (HV.out.gr HGWE.out)).mono ?_
      rintro e WZ ⟨rfl, h⟩
      have HZ := Lib.hid (HGWE.out.below.trans (h.mono HGWE.out.below.size))
      clear c00 c01 c02 c10 c11 c12 c20 c21 c22
      clear h
      go_wp2_with fail
      go_ret
      exact ⟨rfl, HZ.out⟩
    | false =>
      have hp : p = 0 := HHV.out
      subst hp
      clear HHV HAS
      by_cases hr : 0 < r
      · have hr1 : decide (0 < r) = true := by simpa using hr
        go_enter Tryd.func4, Tryd.ntmps4
        go_wp2_with fail
        have HGA := Lib.hid ((((Gr.refl w).alloc (.cells #[.int .u8 k0.1, .int .u8 k0.2.1, .int .u8 k0.2.2] 23)).alloc (.cells #[.int .u8 k1.1, .int .u8 k1.2.1, .int .u8 k1.2.2] 23)).alloc (.cells #[.int .u8 k2.1, .int .u8 k2.2.1, .int .u8 k2.2.2] 23))
        have HBA : Hid (Boxes (((w.alloc (.cells #[.int .u8 k0.1, .int .u8 k0.2.1, .int .u8 k0.2.2] 23)).alloc (.cells #[.int .u8 k1.1, .int .u8 k1.2.1, .int .u8 k1.2.2] 23)).alloc (.cells #[.int .u8 k2.1, .int .u8 k2.2.1, .int .u8 k2.2.2] 23)) w.heap.size (w.heap.size + 1) (w.heap.size + 1 + 1) k0 k1 k2) := Lib.hid (boxes_made w k0 k1 k2)
        generalize ((w.alloc (.cells #[.int .u8 k0.1, .int .u8 k0.2.1, .int .u8 k0.2.2] 23)).alloc (.cells #[.int .u8 k1.1, .int .u8 k1.2.1, .int .u8 k1.2.2] 23)).alloc (.cells #[.int .u8 k2.1, .int .u8 k2.2.1, .int .u8 k2.2.2] 23) = WA at *
        generalize w.heap.size = X at *
        have c00 := HBA.out.c0 0 (.int .u8 k0.1) rfl
        have c01 := HBA.out.c0 1 (.int .u8 k0.2.1) rfl
        have c02 := HBA.out.c0 2 (.int .u8 k0.2.2) rfl
        have c10 := HBA.out.c1 0 (.int .u8 k1.1) rfl
        have c11 := HBA.out.c1 1 (.int .u8 k1.2.1) rfl
        have c12 := HBA.out.c1 2 (.int .u8 k1.2.2) rfl
        have c20 := HBA.out.c2 0 (.int .u8 k2.1) rfl
        have c21 := HBA.out.c2 1 (.int .u8 k2.2.1) rfl
        have c22 := HBA.out.c2 2 (.int .u8 k2.2.2) rfl
        refine (C01 _).mono ?_
        rintro e WB ⟨rfl, h⟩
        have HGWB := Lib.hid (HGA.out.trans h)
        have HBWB := Lib.hid (HBA.out.later h.below)
        clear c00 c01 c02 c10 c11 c12 c20 c21 c22
        clear h
        have c00 := HBWB.out.c0 0 (.int .u8 k0.1) rfl
        have c01 := HBWB.out.c0 1 (.int .u8 k0.2.1) rfl
        have c02 := HBWB.out.c0 2 (.int .u8 k0.2.2) rfl
        have c10 := HBWB.out.c1 0 (.int .u8 k1.1) rfl
        have c11 := HBWB.out.c1 1 (.int .u8 k1.2.1) rfl
        have c12 := HBWB.out.c1 2 (.int .u8 k1.2.2) rfl
        have c20 := HBWB.out.c2 0 (.int .u8 k2.1) rfl
        have c21 := HBWB.out.c2 1 (.int .u8 k2.2.1) rfl
        have c22 := HBWB.out.c2 2 (.int .u8 k2.2.2) rfl
        go_wp2_with fail
        refine (L01 _).mono ?_
        rintro e WC ⟨rfl, h⟩
        have HGWC := Lib.hid (HGWB.out.trans h)
        have HBWC := Lib.hid (HBWB.out.later h.below)
        clear c00 c01 c02 c10 c11 c12 c20 c21 c22
        clear h
        have c00 := HBWC.out.c0 0 (.int .u8 k0.1) rfl
        have c01 := HBWC.out.c0 1 (.int .u8 k0.2.1) rfl
        have c02 := HBWC.out.c0 2 (.int .u8 k0.2.2) rfl
        have c10 := HBWC.out.c1 0 (.int .u8 k1.1) rfl
        have c11 := HBWC.out.c1 1 (.int .u8 k1.2.1) rfl
        have c12 := HBWC.out.c1 2 (.int .u8 k1.2.2) rfl
        have c20 := HBWC.out.c2 0 (.int .u8 k2.1) rfl
        have c21 := HBWC.out.c2 1 (.int .u8 k2.2.1) rfl
        have c22 := HBWC.out.c2 2 (.int .u8 k2.2.2) rfl
        go_wp2_with fail
        refine (L10 _).mono ?_
        rintro e WD ⟨rfl, h⟩
        have HGWD := Lib.hid (HGWC.out.trans h)
        have HBWD := Lib.hid (HBWC.out.later h.below)
        clear c00 c01 c02 c10 c11 c12 c20 c21 c22
        clear h
        have c00 := HBWD.out.c0 0 (.int .u8 k0.1) rfl
        have c01 := HBWD.out.c0 1 (.int .u8 k0.2.1) rfl
        have c02 := HBWD.out.c0 2 (.int .u8 k0.2.2) rfl
        have c10 := HBWD.out.c1 0 (.int .u8 k1.1) rfl
        have c11 := HBWD.out.c1 1 (.int .u8 k1.2.1) rfl
        have c12 := HBWD.out.c1 2 (.int .u8 k1.2.2) rfl
        have c20 := HBWD.out.c2 0 (.int .u8 k2.1) rfl
        have c21 := HBWD.out.c2 1 (.int .u8 k2.2.1) rfl
        have c22 := HBWD.out.c2 2 (.int .u8 k2.2.2) rfl
        go_wp2_with fail
        refine (C10 _).mono ?_
        rintro e WE ⟨rfl, h⟩
        have HGWE := Lib.hid (HGWD.out.trans h)
        have HBWE := Lib.hid (HBWD.out.later h.below)
        clear c00 c01 c02 c10 c11 c12 c20 c21 c22
        clear h
        have c00 := HBWE.out.c0 0 (.int .u8 k0.1) rfl
        have c01 := HBWE.out.c0 1 (.int .u8 k0.2.1) rfl
        have c02 := HBWE.out.c0 2 (.int .u8 k0.2.2) rfl
        have c10 := HBWE.out.c1 0 (.int .u8 k1.1) rfl
        have c11 := HBWE.out.c1 1 (.int .u8 k1.2.1) rfl
        have c12 := HBWE.out.c1 2 (.int .u8 k1.2.2) rfl
        have c20 := HBWE.out.c2 0 (.int .u8 k2.1) rfl
        have c21 := HBWE.out.c2 1 (.int .u8 k2.2.1) rfl
        have c22 := HBWE.out.c2 2 (.int .u8 k2.2.2) rfl
        go_wp2_with fail
        refine (C12 _).mono ?_
        rintro e WF ⟨rfl, h⟩
        have HGWF := Lib.hid (HGWE.out.trans h)
        have HBWF := Lib.hid (HBWE.out.later h.below)
        clear c00 c01 c02 c10 c11 c12 c20 c21 c22
        clear h
        have c00 := HBWF.out.c0 0 (.int .u8 k0.1) rfl
        have c01 := HBWF.out.c0 1 (.int .u8 k0.2.1) rfl
        have c02 := HBWF.out.c0 2 (.int .u8 k0.2.2) rfl
        have c10 := HBWF.out.c1 0 (.int .u8 k1.1) rfl
        have c11 := HBWF.out.c1 1 (.int .u8 k1.2.1) rfl
        have c12 := HBWF.out.c1 2 (.int .u8 k1.2.2) rfl
        have c20 := HBWF.out.c2 0 (.int .u8 k2.1) rfl
        have c21 := HBWF.out.c2 1 (.int .u8 k2.2.1) rfl
        have c22 := HBWF.out.c2 2 (.int .u8 k2.2.2) rfl
        go_wp2_with fail
        refine (works_any _ (HV.out.gr HGWF.out)).mono ?_
        rintro e WZ ⟨rfl, h⟩
        have HZ := Lib.hid (HGWF.out.below.trans (h.mono HGWF.out.below.size))
        clear c00 c01 c02 c10 c11 c12 c20 c21 c22
        clear h
        go_wp2_with fail
        go_ret
        exact ⟨rfl, HZ.out⟩
      · have hr1 : decide (0 < r) = false := by simpa using hr
        have hs : s ≤ 0 := HTR.out (by omega) (by omega)
        go_enter Tryd.func4, Tryd.ntmps4
        go_wp2_with fail
        have HGA := Lib.hid ((((Gr.refl w).alloc (.cells #[.int .u8 k0.1, .int .u8 k0.2.1, .int .u8 k0.2.2] 23)).alloc (.cells #[.int .u8 k1.1, .int .u8 k1.2.1, .int .u8 k1.2.2] 23)).alloc (.cells #[.int .u8 k2.1, .int .u8 k2.2.1, .int .u8 k2.2.2] 23))
        have HBA : Hid (Boxes (((w.alloc (.cells #[.int .u8 k0.1, .int .u8 k0.2.1, .int .u8 k0.2.2] 23)).alloc (.cells #[.int .u8 k1.1, .int .u8 k1.2.1, .int .u8 k1.2.2] 23)).alloc (.cells #[.int .u8 k2.1, .int .u8 k2.2.1, .int .u8 k2.2.2] 23)) w.heap.size (w.heap.size + 1) (w.heap.size + 1 + 1) k0 k1 k2) := Lib.hid (boxes_made w k0 k1 k2)
        generalize ((w.alloc (.cells #[.int .u8 k0.1, .int .u8 k0.2.1, .int .u8 k0.2.2] 23)).alloc (.cells #[.int .u8 k1.1, .int .u8 k1.2.1, .int .u8 k1.2.2] 23)).alloc (.cells #[.int .u8 k2.1, .int .u8 k2.2.1, .int .u8 k2.2.2] 23) = WA at *
        generalize w.heap.size = X at *
        have c00 := HBA.out.c0 0 (.int .u8 k0.1) rfl
        have c01 := HBA.out.c0 1 (.int .u8 k0.2.1) rfl
        have c02 := HBA.out.c0 2 (.int .u8 k0.2.2) rfl
        have c10 := HBA.out.c1 0 (.int .u8 k1.1) rfl
        have c11 := HBA.out.c1 1 (.int .u8 k1.2.1) rfl
        have c12 := HBA.out.c1 2 (.int .u8 k1.2.2) rfl
        have c20 := HBA.out.c2 0 (.int .u8 k2.1) rfl
        have c21 := HBA.out.c2 1 (.int .u8 k2.2.1) rfl
        have c22 := HBA.out.c2 2 (.int .u8 k2.2.2) rfl
        refine (C01 _).mono ?_
        rintro e WB ⟨rfl, h⟩
        have HGWB := Lib.hid (HGA.out.trans h)
        have HBWB := Lib.hid (HBA.out.later h.below)
        clear c00 c01 c02 c10 c11 c12 c20 c21 c22
        clear h
        have c00 := HBWB.out.c0 0 (.int .u8 k0.1) rfl
        have c01 := HBWB.out.c0 1 (.int .u8 k0.2.1) rfl
        have c02 := HBWB.out.c0 2 (.int .u8 k0.2.2) rfl
        have c10 := HBWB.out.c1 0 (.int .u8 k1.1) rfl
        have c11 := HBWB.out.c1 1 (.int .u8 k1.2.1) rfl
        have c12 := HBWB.out.c1 2 (.int .u8 k1.2.2) rfl
        have c20 := HBWB.out.c2 0 (.int .u8 k2.1) rfl
        have c21 := HBWB.out.c2 1 (.int .u8 k2.2.1) rfl
        have c22 := HBWB.out.c2 2 (.int .u8 k2.2.2) rfl
        go_wp2_with fail
        refine (L01 _).mono ?_
        rintro e WC ⟨rfl, h⟩
        have HGWC := Lib.hid (HGWB.out.trans h)
        have HBWC := Lib.hid (HBWB.out.later h.below)
        clear c00 c01 c02 c10 c11 c12 c20 c21 c22
        clear h
        have c00 := HBWC.out.c0 0 (.int .u8 k0.1) rfl
        have c01 := HBWC.out.c0 1 (.int .u8 k0.2.1) rfl
        have c02 := HBWC.out.c0 2 (.int .u8 k0.2.2) rfl
        have c10 := HBWC.out.c1 0 (.int .u8 k1.1) rfl
        have c11 := HBWC.out.c1 1 (.int .u8 k1.2.1) rfl
        have c12 := HBWC.out.c1 2 (.int .u8 k1.2.2) rfl
        have c20 := HBWC.out.c2 0 (.int .u8 k2.1) rfl
        have c21 := HBWC.out.c2 1 (.int .u8 k2.2.1) rfl
        have c22 := HBWC.out.c2 2 (.int .u8 k2.2.2) rfl
        go_wp2_with fail
        refine (L10 _).mono ?_
        rintro e WD ⟨rfl, h⟩
        have HGWD := Lib.hid (HGWC.out.trans h)
        have HBWD := Lib.hid (HBWC.out.later h.below)
        clear c00 c01 c02 c10 c11 c12 c20 c21 c22
        clear h
        have c00 := HBWD.out.c0 0 (.int .u8 k0.1) rfl
        have c01 := HBWD.out.c0 1 (.int .u8 k0.2.1) rfl
        have c02 := HBWD.out.c0 2 (.int .u8 k0.2.2) rfl
        have c10 := HBWD.out.c1 0 (.int .u8 k1.1) rfl
        have c11 := HBWD.out.c1 1 (.int .u8 k1.2.1) rfl
        have c12 := HBWD.out.c1 2 (.int .u8 k1.2.2) rfl
        have c20 := HBWD.out.c2 0 (.int .u8 k2.1) rfl
        have c21 := HBWD.out.c2 1 (.int .u8 k2.2.1) rfl
        have c22 := HBWD.out.c2 2 (.int .u8 k2.2.2) rfl
        go_wp2_with fail
        refine (C10 _).mono ?_
        rintro e WE ⟨rfl, h⟩
        have HGWE := Lib.hid (HGWD.out.trans h)
        have HBWE := Lib.hid (HBWD.out.later h.below)
        clear c00 c01 c02 c10 c11 c12 c20 c21 c22
        clear h
        have c00 := HBWE.out.c0 0 (.int .u8 k0.1) rfl
        have c01 := HBWE.out.c0 1 (.int .u8 k0.2.1) rfl
        have c02 := HBWE.out.c0 2 (.int .u8 k0.2.2) rfl
        have c10 := HBWE.out.c1 0 (.int .u8 k1.1) rfl
        have c11 := HBWE.out.c1 1 (.int .u8 k1.2.1) rfl
        have c12 := HBWE.out.c1 2 (.int .u8 k1.2.2) rfl
        have c20 := HBWE.out.c2 0 (.int .u8 k2.1) rfl
        have c21 := HBWE.out.c2 1 (.int .u8 k2.2.1) rfl
        have c22 := HBWE.out.c2 2 (.int .u8 k2.2.2) rfl
        go_wp2_with fail
        refine (C12 _).mono ?_
        rintro e WF ⟨rfl, h⟩
        have HGWF := Lib.hid (HGWE.out.trans h)
        have HBWF := Lib.hid (HBWE.out.later h.below)
        clear c00 c01 c02 c10 c11 c12 c20 c21 c22
        clear h
        have c00 := HBWF.out.c0 0 (.int .u8 k0.1) rfl
        have c01 := HBWF.out.c0 1 (.int .u8 k0.2.1) rfl
        have c02 := HBWF.out.c0 2 (.int .u8 k0.2.2) rfl
        have c10 := HBWF.out.c1 0 (.int .u8 k1.1) rfl
        have c11 := HBWF.out.c1 1 (.int .u8 k1.2.1) rfl
        have c12 := HBWF.out.c1 2 (.int .u8 k1.2.2) rfl
        have c20 := HBWF.out.c2 0 (.int .u8 k2.1) rfl
        have c21 := HBWF.out.c2 1 (.int .u8 k2.2.1) rfl
        have c22 := HBWF.out.c2 2 (.int .u8 k2.2.2) rfl
        go_wp2_with fail
        refine (C02 _).mono ?_
        rintro e WG ⟨rfl, h⟩
        have HGWG := Lib.hid (HGWF.out.trans h)
        have HBWG := Lib.hid (HBWF.out.later h.below)
        clear c00 c01 c02 c10 c11 c12 c20 c21 c22
        clear h
        have c00 := HBWG.out.c0 0 (.int .u8 k0.1) rfl
        have c01 := HBWG.out.c0 1 (.int .u8 k0.2.1) rfl
        have c02 := HBWG.out.c0 2 (.int .u8 k0.2.2) rfl
        have c10 := HBWG.out.c1 0 (.int .u8 k1.1) rfl
        have c11 := HBWG.out.c1 1 (.int .u8 k1.2.1) rfl
        have c12 := HBWG.out.c1 2 (.int .u8 k1.2.2) rfl
        have c20 := HBWG.out.c2 0 (.int .u8 k2.1) rfl
        have c21 := HBWG.out.c2 1 (.int .u8 k2.2.1) rfl
        have c22 := HBWG.out.c2 2 (.int .u8 k2.2.2) rfl
        go_wp2_with fail
        refine (works_any _ (HV.out.gr HGWG.out)).mono ?_
        rintro e WZ ⟨rfl, h⟩
        have HZ := Lib.hid (HGWG.out.below.trans (h.mono HGWG.out.below.size))
        clear c00 c01 c02 c10 c11 c12 c20 c21 c22
        clear h
        go_wp2_with fail
        go_ret
        exact ⟨rfl, HZ.out⟩

set_option maxRecDepth 100000 in
theorem lifted (os : Os) (started : os.Started) (H : Type) (enc : TypeId × Value → H) :
    ReturnsInHanded {} Tryd.checked os 4 .any (fun w args => (Rows.keyOrderSpec.pre enc Tryd.prog Tryd.f4 [] false w args ∧ laidMetH Tryd.prog Rows.keyOrderRow.laid w) ∧ sizedMet enc Tryd.prog Tryd.f4 (OpenSpec.ofChange Rows.keyOrderSpec) false w args) (Rows.keyOrderSpec.post enc Tryd.prog Tryd.f4 false true false false) := by
  refine returnsInHanded_of_change_and (C := Tryd.checked) (X := fun w _ => laidMetH Tryd.prog Rows.keyOrderRow.laid w) (fun _ _ _ hh h => h.of_heap hh) own started (by kernel_rfl) Tryd.func4
    (ChangeSpec.witness_shaped (enc := enc) (C := Tryd.checked) (os := os) (X := fun w _ => laidMetH Tryd.prog Rows.keyOrderRow.laid w) false (World.doorLaid Tryd.prog 400 os) #[.agg #[.int .u8 0, .int .u8 0, .int .u8 0], .agg #[.int .u8 0, .int .u8 0, .int .u8 0], .agg #[.int .u8 0, .int .u8 0, .int .u8 0]] 8 rfl (World.shaped_of_RefB (by kernel_rfl) (by kernel_rfl)) (by kernel_rfl) (by kernel_rfl) (by kernel_rfl) (door_met os _)) ?_
  intro W base args ds gs before hval0 hW _ _ hL _
  have hval : ∀ (j : Nat) t v, Tryd.f4.params[j]? = some t → args[j]? = some v → Value.okWide Tryd.prog W .any base t v := hval0
  have hW' := hW
  obtain ⟨p, q, hA0, hV, rfl, hfz, hnd⟩ := hW
  have hA : DataW.TrodAll enc Tryd.prog W 0 (fun _ => true) true Tryd.f4.params.toList args.toList ds p := hA0
  rw [Tryd.params4] at hA hval
  obtain ⟨v0, vs0, d0, ds0, p0, q0, hargs, rfl, rfl, h0, r0⟩ := trodAll_cons hA
  obtain ⟨v1, vs1, d1, ds1, p1, q1, rfl, rfl, rfl, h1, r1⟩ := trodAll_cons r0
  obtain ⟨v2, vs2, d2, ds2, p2, q2, rfl, rfl, rfl, h2, r2⟩ := trodAll_cons r1
  obtain ⟨rfl, rfl, rfl⟩ := trodAll_nil r2
  obtain rfl : args = #[v0, v1, v2] := by cases args; simp_all
  obtain ⟨rfl, rfl⟩ := trodVars_none hV
  have k0 := h0
  have lt0 : ∀ x ∈ p0, x.block < W.heap.size := by obtain ⟨m, hm⟩ := k0; exact DataW.trod_lt m _ _ _ hm
  obtain ⟨x0, rfl, w0⟩ := open_key (hval 0 23 v0 rfl rfl) h0
  have k1 := h1
  have lt1 : ∀ x ∈ p1, x.block < W.heap.size := by obtain ⟨m, hm⟩ := k1; exact DataW.trod_lt m _ _ _ hm
  obtain ⟨x1, rfl, w1⟩ := open_key (hval 1 23 v1 rfl rfl) h1
  have k2 := h2
  have lt2 : ∀ x ∈ p2, x.block < W.heap.size := by obtain ⟨m, hm⟩ := k2; exact DataW.trod_lt m _ _ _ hm
  obtain ⟨x2, rfl, w2⟩ := open_key (hval 2 23 v2 rfl rfl) h2
  clear hA0 hval0
  refine (walk x0 x1 x2 W (of_laid hL) w0 w1 w2).mono fun e W' ⟨he, bel⟩ => ?_
  subst he
  exact ⟨_, rfl, _, _, _, [], _, [], hW', trodAll_mk1 (shut_bool Tryd.underlying4 _), (trodAll_cons_mk (Below.trod laidOut (by kernel_rfl) (of_decide_eq_true (by kernel_rfl)) k0 bel lt0) (trodAll_cons_mk (Below.trod laidOut (by kernel_rfl) (of_decide_eq_true (by kernel_rfl)) k1 bel lt1) (trodAll_cons_mk (Below.trod laidOut (by kernel_rfl) (of_decide_eq_true (by kernel_rfl)) k2 bel lt2) trodAll_mk0))), rfl, bel.frame _, fun h => by cases h⟩

theorem over : Rows.keyOrderRow.holds Tryd.pinned (OpenSpec.ofChange Rows.keyOrderSpec) :=
  OpenClaim.holds_of_wide 4 Tryd.f4 rfl rfl rfl rfl rfl rfl rfl ⟨rfl, rfl, rfl, rfl, rfl⟩ rfl rfl rfl rfl rfl (by kernel_rfl) Tryd.func4 (by kernel_rfl)
    (of_decide_eq_true (by kernel_rfl)) (by unfold Func.isWrapper; first | (rw [if_pos (by decide +kernel)]; kernel_rfl) | (rw [if_neg (by decide +kernel)]; exact ⟨rfl, rfl⟩))
    (fun os started H enc _ => lifted os started H enc)

theorem proved : Rows.KeyOrderCardSaid :=
  Claim7.holds_tied_plain_at .later [] [.data, .data, .data, .sentinel, .sentinel] true (true, "b1d0fd53b19cb1e08d0b4129f2ab4db37302d229c001c238747dfdcafbb347b4") true
    over (fun _ h => by cases h) (by kernel_rfl) (fun _ h => by cases h) keyOrder_row_tie rfl ⟨rfl, rfl⟩ (by kernel_rfl) rfl
    (fun f fn hf hfn => by
      obtain rfl : f = 4 := Option.some.inj ((show Tryd.prog.funcNamed "pledge/pledgelaw04.KeyOrder" = some 4 by kernel_rfl).symm.trans hf) |>.symm
      obtain rfl : fn = Tryd.f4 := (Option.some.inj (Tryd.func4.symm.trans hfn)).symm
      exact ⟨by kernel_rfl, fun j t ht => by
        rw [Tryd.params4] at ht
        have hm : t ∈ [23, 23, 23] := by simpa using Array.mem_of_getElem? ht
        have hall : ([23, 23, 23].all fun u => !Tryd.prog.wantsStandIn u) = true := by kernel_rfl
        exact (show Tryd.prog.wantsStandIn t = false by simpa using List.all_eq_true.1 hall t hm)⟩)
    (by kernel_rfl)
#print axioms proved
end Go.Proofs.YthkfijgdopjjjaaDoor.keyOrder
