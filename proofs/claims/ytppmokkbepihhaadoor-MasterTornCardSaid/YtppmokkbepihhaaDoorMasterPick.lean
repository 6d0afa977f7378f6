/- master.Pick, and the document's Pick. (Written by tools/src/mkmasterpick.py.) -/
import Derived.Test.YtppmokkbepihhaaDoorMasterRdec
namespace Go.Proofs.YtppmokkbepihhaaDoor
open Go.RowKit Go.ChangeShapes Go.WideShapes
set_option linter.unusedVariables false
set_option linter.unusedSimpArgs false
set_option maxRecDepth 10000

/-- A call that hands back a master and two numbers. -/
def GivesMP (W : World) (m : Mv) (k x : Int) (e : Ending) (w' : World) : Prop := e = .returned (.tuple #[.agg #[.int .u64 ((m.g : Nat) : Int), .int .u8 ((m.a : Nat) : Int), .int .i64 (sgn m.r), .int .i64 (sgn m.t), .int .i64 (sgn m.s)], .int .i64 k, .int .i64 x]) ∧ Below W.heap.size W w'
theorem results_cell_tmp2 {fn : Func} {p u v : Tmp} {ty : TypeId} (h : fn.results = #[.cell p ty, .tmp u, .tmp v]) (tmps : Array Value) (P : Program) (w : World) :
    (results fn tmps).run P w =
      ((asAddr (tmps.getD p undef)).run P w).andThen fun a w₁ => ((loadVar ty a).run P w₁).andThen fun x w₂ => .ok (.tuple #[x, tmps.getD u undef, tmps.getD v undef]) w₂ := by
  simp only [results, h]
  simp [Sem.run_bind, Result.andThen]
theorem results_mp {fn : Func} (h : fn.results = #[.cell 4 24, .tmp 5, .tmp 6]) (tmps : Array Value) (W : World) (R : Nat) (cs : Array Value) (hs : cs.size = 5) (v u : Value) (hp : tmps.getD 4 undef = .pointer (some ⟨R, 0, none⟩)) (hv : tmps.getD 5 undef = v) (hu : tmps.getD 6 undef = u)
    (hB : W.heap[R]? = some (.cells cs 24 (0, 0))) : (results fn tmps).run Tryd.prog W = .ok (.tuple #[.agg cs, v, u]) W := by
  rw [results_cell_tmp2 h, hp, hv, hu]
  simp [asAddr, Result.andThen, run_loadVar_row W R 24 24 cs (0, 0) _ hB Tryd.underlying24 rfl (by rw [hs]; kernel_rfl)]
set_option maxHeartbeats 1000000 in
theorem mp_none (p q : Option Addr) (n c m d : Nat) (w : World) (x y : Int) (g1 a1 r1 t1 s1 g2 a2 r2 t2 s2 : Nat)
    (hA : ∀ w', Below w.heap.size w w' → Calls Tryd.prog 10 #[.slice p n c] w' (GivesMM w' ⟨g1, a1, r1, t1, s1⟩ x)) (hB : ∀ w', Below w.heap.size w w' → Calls Tryd.prog 10 #[.slice q m d] w' (GivesMM w' ⟨g2, a2, r2, t2, s2⟩ y)) (hx : (x == 0) = false) (hy : (y == 0) = false) :
    Calls Tryd.prog 14 #[.slice p n c, .slice q m d] w fun e w' => e = .returned (.tuple #[.agg #[.int .u64 0, .int .u8 0, .int .i64 0, .int .i64 0, .int .i64 0], .int .i64 0, .int .i64 13]) ∧ Below w.heap.size w w' := by
  have hx2 : (x != 0) = !(x == 0) := rfl
  have hy2 : (y != 0) = !(y == 0) := rfl
  rw [hx] at hx2
  rw [hy] at hy2
  simp only [Bool.not_true, Bool.not_false] at hx2 hy2
  have hb0 : Below w.heap.size w (w.alloc (.cells #[.int .u64 0, .int .u8 0, .int .i64 0, .int .i64 0, .int .i64 0] 24)) := (Below.refl _ _).alloc (Nat.le_refl _) _
  have hr0 := alloc_block w (.cells #[.int .u64 0, .int .u8 0, .int .i64 0, .int .i64 0, .int .i64 0] 24)
  have HB0 := Lib.hid hb0
  have HR0 := Lib.hid hr0
  have HA := Lib.hid hA
  have HBB := Lib.hid hB
  clear hb0 hr0 hA hB
  obtain ⟨X, hX⟩ : ∃ X, w.heap.size = X := ⟨_, rfl⟩
  have HX := Lib.hid hX
  rw [hX] at HR0
  go_enter Tryd.func14, Tryd.ntmps14
  go_wp2_with fail
  clear hX
  refine (HA.out _ HB0.out).mono ?_
  rintro e w1 ⟨rfl, hb1⟩
  have hbn := ((Below.refl w1.heap.size w1).alloc (Nat.le_refl _) (.cells #[.int .u64 (g1 : Int), .int .u8 (a1 : Int), .int .i64 (sgn r1), .int .i64 (sgn t1), .int .i64 (sgn s1)] 24))
  have HY1 := Lib.hid (alloc_block w1 (.cells #[.int .u64 (g1 : Int), .int .u8 (a1 : Int), .int .i64 (sgn r1), .int .i64 (sgn t1), .int .i64 (sgn s1)] 24))
  have HR1 := Lib.hid (block_later (block_later HR0.out hb1) hbn)
  have HB1 := Lib.hid (HB0.out.trans ((hb1.trans (hbn.mono hb1.size)).mono HB0.out.size))
  clear hb1 hbn HR0 HB0 HA
  go_wp2_with fail
  generalize w1.alloc (.cells #[.int .u64 (g1 : Int), .int .u8 (a1 : Int), .int .i64 (sgn r1), .int .i64 (sgn t1), .int .i64 (sgn s1)] 24) = W1 at *
  generalize w1.heap.size = Y1 at *
  refine (HBB.out _ HB1.out).mono ?_
  rintro e w2 ⟨rfl, hb2⟩
  have hbn := ((Below.refl w2.heap.size w2).alloc (Nat.le_refl _) (.cells #[.int .u64 (g2 : Int), .int .u8 (a2 : Int), .int .i64 (sgn r2), .int .i64 (sgn t2), .int .i64 (sgn s2)] 24))
  have HY2 := Lib.hid (alloc_block w2 (.cells #[.int .u64 (g2 : Int), .int .u8 (a2 : Int), .int .i64 (sgn r2), .int .i64 (sgn t2), .int .i64 (sgn s2)] 24))
  have HR2 := Lib.hid (block_later (block_later HR1.out hb2) hbn)
  have HY12 := Lib.hid (block_later (block_later HY1.out hb2) hbn)
  have HB2 := Lib.hid (HB1.out.trans ((hb2.trans (hbn.mono hb2.size)).mono HB1.out.size))
  clear hb2 hbn HR1 HB1 HY1 HBB
  go_upto_region 3 with (fail)
  generalize w2.alloc (.cells #[.int .u64 (g2 : Int), .int .u8 (a2 : Int), .int .i64 (sgn r2), .int .i64 (sgn t2), .int .i64 (sgn s2)] 24) = W2 at *
  generalize w2.heap.size = Y2 at *
  obtain ⟨y0, y1, y2, y3, y4⟩ := mcells HY12.out
  obtain ⟨z0, z1, z2, z3, z4⟩ := mcells HY2.out
  obtain ⟨e0, e1, e2, e3, e4⟩ := mcells HR2.out
  obtain ⟨q0, q1, q2, q3, q4⟩ := mfree HR2.out
  have HF := Lib.hid (mstored (a' := .int .u64 0) (b' := .int .u8 0) (c' := .int .i64 0) (d' := .int .i64 0) (e' := .int .i64 0) HR2.out)
  have HG := Lib.hid (mkept HB2.out (Nat.le_of_eq HX.out) (.int .u64 0) (.int .u8 0) (.int .i64 0) (.int .i64 0) (.int .i64 0))
  clear HY12 HY2 HR2 HB2
  go_wp2_with fail
  refine bodyPost_ret (v := .tuple #[.agg #[.int .u64 0, .int .u8 0, .int .i64 0, .int .i64 0, .int .i64 0], .int .i64 0, .int .i64 13]) ?_ rfl ⟨rfl, HG.out⟩
  exact results_mp rfl _ _ X _ rfl _ _ rfl rfl rfl HF.out
set_option maxHeartbeats 1000000 in
theorem mp_snd (p q : Option Addr) (n c m d : Nat) (w : World) (x y : Int) (g1 a1 r1 t1 s1 g2 a2 r2 t2 s2 : Nat)
    (hA : ∀ w', Below w.heap.size w w' → Calls Tryd.prog 10 #[.slice p n c] w' (GivesMM w' ⟨g1, a1, r1, t1, s1⟩ x)) (hB : ∀ w', Below w.heap.size w w' → Calls Tryd.prog 10 #[.slice q m d] w' (GivesMM w' ⟨g2, a2, r2, t2, s2⟩ y)) (hx : (x == 0) = false) (hy : (y == 0) = true) (hgt : (g1 : Int) < (g2 : Int)) :
    Calls Tryd.prog 14 #[.slice p n c, .slice q m d] w fun e w' => e = .returned (.tuple #[.agg #[.int .u64 (g2 : Int), .int .u8 (a2 : Int), .int .i64 (sgn r2), .int .i64 (sgn t2), .int .i64 (sgn s2)], .int .i64 1, .int .i64 0]) ∧ Below w.heap.size w w' := by
  have hx2 : (x != 0) = !(x == 0) := rfl
  have hy2 : (y != 0) = !(y == 0) := rfl
  rw [hx] at hx2
  rw [hy] at hy2
  simp only [Bool.not_true, Bool.not_false] at hx2 hy2
  have hb0 : Below w.heap.size w (w.alloc (.cells #[.int .u64 0, .int .u8 0, .int .i64 0, .int .i64 0, .int .i64 0] 24)) := (Below.refl _ _).alloc (Nat.le_refl _) _
  have hr0 := alloc_block w (.cells #[.int .u64 0, .int .u8 0, .int .i64 0, .int .i64 0, .int .i64 0] 24)
  have HB0 := Lib.hid hb0
  have HR0 := Lib.hid hr0
  have HA := Lib.hid hA
  have HBB := Lib.hid hB
  clear hb0 hr0 hA hB
  obtain ⟨X, hX⟩ : ∃ X, w.heap.size = X := ⟨_, rfl⟩
  have HX := Lib.hid hX
  rw [hX] at HR0
  go_enter Tryd.func14, Tryd.ntmps14
  go_wp2_with fail
  clear hX
  refine (HA.out _ HB0.out).mono ?_
  rintro e w1 ⟨rfl, hb1⟩
  have hbn := ((Below.refl w1.heap.size w1).alloc (Nat.le_refl _) (.cells #[.int .u64 (g1 : Int), .int .u8 (a1 : Int), .int .i64 (sgn r1), .int .i64 (sgn t1), .int .i64 (sgn s1)] 24))
  have HY1 := Lib.hid (alloc_block w1 (.cells #[.int .u64 (g1 : Int), .int .u8 (a1 : Int), .int .i64 (sgn r1), .int .i64 (sgn t1), .int .i64 (sgn s1)] 24))
  have HR1 := Lib.hid (block_later (block_later HR0.out hb1) hbn)
  have HB1 := Lib.hid (HB0.out.trans ((hb1.trans (hbn.mono hb1.size)).mono HB0.out.size))
  clear hb1 hbn HR0 HB0 HA
  go_wp2_with fail
  generalize w1.alloc (.cells #[.int .u64 (g1 : Int), .int .u8 (a1 : Int), .int .i64 (sgn r1), .int .i64 (sgn t1), .int .i64 (sgn s1)] 24) = W1 at *
  generalize w1.heap.size = Y1 at *
  refine (HBB.out _ HB1.out).mono ?_
  rintro e w2 ⟨rfl, hb2⟩
  have hbn := ((Below.refl w2.heap.size w2).alloc (Nat.le_refl _) (.cells #[.int .u64 (g2 : Int), .int .u8 (a2 : Int), .int .i64 (sgn r2), .int .i64 (sgn t2), .int .i64 (sgn s2)] 24))
  have HY2 := Lib.hid (alloc_block w2 (.cells #[.int .u64 (g2 : Int), .int .u8 (a2 : Int), .int .i64 (sgn r2), .int .i64 (sgn t2), .int .i64 (sgn s2)] 24))
  have HR2 := Lib.hid (block_later (block_later HR1.out hb2) hbn)
  have HY12 := Lib.hid (block_later (block_later HY1.out hb2) hbn)
  have HB2 := Lib.hid (HB1.out.trans ((hb2.trans (hbn.mono hb2.size)).mono HB1.out.size))
  clear hb2 hbn HR1 HB1 HY1 HBB
  go_upto_region 3 with (fail)
  generalize w2.alloc (.cells #[.int .u64 (g2 : Int), .int .u8 (a2 : Int), .int .i64 (sgn r2), .int .i64 (sgn t2), .int .i64 (sgn s2)] 24) = W2 at *
  generalize w2.heap.size = Y2 at *
  obtain ⟨y0, y1, y2, y3, y4⟩ := mcells HY12.out
  obtain ⟨z0, z1, z2, z3, z4⟩ := mcells HY2.out
  obtain ⟨e0, e1, e2, e3, e4⟩ := mcells HR2.out
  obtain ⟨q0, q1, q2, q3, q4⟩ := mfree HR2.out
  have HF := Lib.hid (mstored (a' := .int .u64 (g2 : Int)) (b' := .int .u8 (a2 : Int)) (c' := .int .i64 (sgn r2)) (d' := .int .i64 (sgn t2)) (e' := .int .i64 (sgn s2)) HR2.out)
  have HG := Lib.hid (mkept HB2.out (Nat.le_of_eq HX.out) (.int .u64 (g2 : Int)) (.int .u8 (a2 : Int)) (.int .i64 (sgn r2)) (.int .i64 (sgn t2)) (.int .i64 (sgn s2)))
  clear HY12 HY2 HR2 HB2
  go_wp2_with fail
  refine bodyPost_ret (v := .tuple #[.agg #[.int .u64 (g2 : Int), .int .u8 (a2 : Int), .int .i64 (sgn r2), .int .i64 (sgn t2), .int .i64 (sgn s2)], .int .i64 1, .int .i64 0]) ?_ rfl ⟨rfl, HG.out⟩
  exact results_mp rfl _ _ X _ rfl _ _ rfl rfl rfl HF.out
set_option maxHeartbeats 1000000 in
theorem mp_gt (p q : Option Addr) (n c m d : Nat) (w : World) (x y : Int) (g1 a1 r1 t1 s1 g2 a2 r2 t2 s2 : Nat)
    (hA : ∀ w', Below w.heap.size w w' → Calls Tryd.prog 10 #[.slice p n c] w' (GivesMM w' ⟨g1, a1, r1, t1, s1⟩ x)) (hB : ∀ w', Below w.heap.size w w' → Calls Tryd.prog 10 #[.slice q m d] w' (GivesMM w' ⟨g2, a2, r2, t2, s2⟩ y)) (hx : (x == 0) = true) (hy : (y == 0) = true) (hgt : (g1 : Int) < (g2 : Int)) :
    Calls Tryd.prog 14 #[.slice p n c, .slice q m d] w fun e w' => e = .returned (.tuple #[.agg #[.int .u64 (g2 : Int), .int .u8 (a2 : Int), .int .i64 (sgn r2), .int .i64 (sgn t2), .int .i64 (sgn s2)], .int .i64 1, .int .i64 0]) ∧ Below w.heap.size w w' := by
  have hx2 : (x != 0) = !(x == 0) := rfl
  have hy2 : (y != 0) = !(y == 0) := rfl
  rw [hx] at hx2
  rw [hy] at hy2
  simp only [Bool.not_true, Bool.not_false] at hx2 hy2
  have hb0 : Below w.heap.size w (w.alloc (.cells #[.int .u64 0, .int .u8 0, .int .i64 0, .int .i64 0, .int .i64 0] 24)) := (Below.refl _ _).alloc (Nat.le_refl _) _
  have hr0 := alloc_block w (.cells #[.int .u64 0, .int .u8 0, .int .i64 0, .int .i64 0, .int .i64 0] 24)
  have HB0 := Lib.hid hb0
  have HR0 := Lib.hid hr0
  have HA := Lib.hid hA
  have HBB := Lib.hid hB
  clear hb0 hr0 hA hB
  obtain ⟨X, hX⟩ : ∃ X, w.heap.size = X := ⟨_, rfl⟩
  have HX := Lib.hid hX
  rw [hX] at HR0
  go_enter Tryd.func14, Tryd.ntmps14
  go_wp2_with fail
  clear hX
  refine (HA.out _ HB0.out).mono ?_
  rintro e w1 ⟨rfl, hb1⟩
  have hbn := ((Below.refl w1.heap.size w1).alloc (Nat.le_refl _) (.cells #[.int .u64 (g1 : Int), .int .u8 (a1 : Int), .int .i64 (sgn r1), .int .i64 (sgn t1), .int .i64 (sgn s1)] 24))
  have HY1 := Lib.hid (alloc_block w1 (.cells #[.int .u64 (g1 : Int), .int .u8 (a1 : Int), .int .i64 (sgn r1), .int .i64 (sgn t1), .int .i64 (sgn s1)] 24))
  have HR1 := Lib.hid (block_later (block_later HR0.out hb1) hbn)
  have HB1 := Lib.hid (HB0.out.trans ((hb1.trans (hbn.mono hb1.size)).mono HB0.out.size))
  clear hb1 hbn HR0 HB0 HA
  go_wp2_with fail
  generalize w1.alloc (.cells #[.int .u64 (g1 : Int), .int .u8 (a1 : Int), .int .i64 (sgn r1), .int .i64 (sgn t1), .int .i64 (sgn s1)] 24) = W1 at *
  generalize w1.heap.size = Y1 at *
  refine (HBB.out _ HB1.out).mono ?_
  rintro e w2 ⟨rfl, hb2⟩
  have hbn := ((Below.refl w2.heap.size w2).alloc (Nat.le_refl _) (.cells #[.int .u64 (g2 : Int), .int .u8 (a2 : Int), .int .i64 (sgn r2), .int .i64 (sgn t2), .int .i64 (sgn s2)] 24))
  have HY2 := Lib.hid (alloc_block w2 (.cells #[.int .u64 (g2 : Int), .int .u8 (a2 : Int), .int .i64 (sgn r2), .int .i64 (sgn t2), .int .i64 (sgn s2)] 24))
  have HR2 := Lib.hid (block_later (block_later HR1.out hb2) hbn)
  have HY12 := Lib.hid (block_later (block_later HY1.out hb2) hbn)
  have HB2 := Lib.hid (HB1.out.trans ((hb2.trans (hbn.mono hb2.size)).mono HB1.out.size))
  clear hb2 hbn HR1 HB1 HY1 HBB
  go_upto_region 3 with (fail)
  generalize w2.alloc (.cells #[.int .u64 (g2 : Int), .int .u8 (a2 : Int), .int .i64 (sgn r2), .int .i64 (sgn t2), .int .i64 (sgn s2)] 24) = W2 at *
  generalize w2.heap.size = Y2 at *
  obtain ⟨y0, y1, y2, y3, y4⟩ := mcells HY12.out
  obtain ⟨z0, z1, z2, z3, z4⟩ := mcells HY2.out
  obtain ⟨e0, e1, e2, e3, e4⟩ := mcells HR2.out
  obtain ⟨q0, q1, q2, q3, q4⟩ := mfree HR2.out
  have HF := Lib.hid (mstored (a' := .int .u64 (g2 : Int)) (b' := .int .u8 (a2 : Int)) (c' := .int .i64 (sgn r2)) (d' := .int .i64 (sgn t2)) (e' := .int .i64 (sgn s2)) HR2.out)
  have HG := Lib.hid (mkept HB2.out (Nat.le_of_eq HX.out) (.int .u64 (g2 : Int)) (.int .u8 (a2 : Int)) (.int .i64 (sgn r2)) (.int .i64 (sgn t2)) (.int .i64 (sgn s2)))
  clear HY12 HY2 HR2 HB2
  go_wp2_with fail
  refine bodyPost_ret (v := .tuple #[.agg #[.int .u64 (g2 : Int), .int .u8 (a2 : Int), .int .i64 (sgn r2), .int .i64 (sgn t2), .int .i64 (sgn s2)], .int .i64 1, .int .i64 0]) ?_ rfl ⟨rfl, HG.out⟩
  exact results_mp rfl _ _ X _ rfl _ _ rfl rfl rfl HF.out
set_option maxHeartbeats 1000000 in
theorem mp_fst (p q : Option Addr) (n c m d : Nat) (w : World) (x y : Int) (g1 a1 r1 t1 s1 g2 a2 r2 t2 s2 : Nat)
    (hA : ∀ w', Below w.heap.size w w' → Calls Tryd.prog 10 #[.slice p n c] w' (GivesMM w' ⟨g1, a1, r1, t1, s1⟩ x)) (hB : ∀ w', Below w.heap.size w w' → Calls Tryd.prog 10 #[.slice q m d] w' (GivesMM w' ⟨g2, a2, r2, t2, s2⟩ y)) (hx : (x == 0) = true) (hy : (y == 0) = true) (hle : (g2 : Int) ≤ (g1 : Int)) :
    Calls Tryd.prog 14 #[.slice p n c, .slice q m d] w fun e w' => e = .returned (.tuple #[.agg #[.int .u64 (g1 : Int), .int .u8 (a1 : Int), .int .i64 (sgn r1), .int .i64 (sgn t1), .int .i64 (sgn s1)], .int .i64 0, .int .i64 0]) ∧ Below w.heap.size w w' := by
  have hx2 : (x != 0) = !(x == 0) := rfl
  have hy2 : (y != 0) = !(y == 0) := rfl
  rw [hx] at hx2
  rw [hy] at hy2
  simp only [Bool.not_true, Bool.not_false] at hx2 hy2
  have hb0 : Below w.heap.size w (w.alloc (.cells #[.int .u64 0, .int .u8 0, .int .i64 0, .int .i64 0, .int .i64 0] 24)) := (Below.refl _ _).alloc (Nat.le_refl _) _
  have hr0 := alloc_block w (.cells #[.int .u64 0, .int .u8 0, .int .i64 0, .int .i64 0, .int .i64 0] 24)
  have HB0 := Lib.hid hb0
  have HR0 := Lib.hid hr0
  have HA := Lib.hid hA
  have HBB := Lib.hid hB
  clear hb0 hr0 hA hB
  obtain ⟨X, hX⟩ : ∃ X, w.heap.size = X := ⟨_, rfl⟩
  have HX := Lib.hid hX
  rw [hX] at HR0
  go_enter Tryd.func14, Tryd.ntmps14
  go_wp2_with fail
  clear hX
  refine (HA.out _ HB0.out).mono ?_
  rintro e w1 ⟨rfl, hb1⟩
  have hbn := ((Below.refl w1.heap.size w1).alloc (Nat.le_refl _) (.cells #[.int .u64 (g1 : Int), .int .u8 (a1 : Int), .int .i64 (sgn r1), .int .i64 (sgn t1), .int .i64 (sgn s1)] 24))
  have HY1 := Lib.hid (alloc_block w1 (.cells #[.int .u64 (g1 : Int), .int .u8 (a1 : Int), .int .i64 (sgn r1), .int .i64 (sgn t1), .int .i64 (sgn s1)] 24))
  have HR1 := Lib.hid (block_later (block_later HR0.out hb1) hbn)
  have HB1 := Lib.hid (HB0.out.trans ((hb1.trans (hbn.mono hb1.size)).mono HB0.out.size))
  clear hb1 hbn HR0 HB0 HA
  go_wp2_with fail
  generalize w1.alloc (.cells #[.int .u64 (g1 : Int), .int .u8 (a1 : Int), .int .i64 (sgn r1), .int .i64 (sgn t1), .int .i64 (sgn s1)] 24) = W1 at *
  generalize w1.heap.size = Y1 at *
  refine (HBB.out _ HB1.out).mono ?_
  rintro e w2 ⟨rfl, hb2⟩
  have hbn := ((Below.refl w2.heap.size w2).alloc (Nat.le_refl _) (.cells #[.int .u64 (g2 : Int), .int .u8 (a2 : Int), .int .i64 (sgn r2), .int .i64 (sgn t2), .int .i64 (sgn s2)] 24))
  have HY2 := Lib.hid (alloc_block w2 (.cells #[.int .u64 (g2 : Int), .int .u8 (a2 : Int), .int .i64 (sgn r2), .int .i64 (sgn t2), .int .i64 (sgn s2)] 24))
  have HR2 := Lib.hid (block_later (block_later HR1.out hb2) hbn)
  have HY12 := Lib.hid (block_later (block_later HY1.out hb2) hbn)
  have HB2 := Lib.hid (HB1.out.trans ((hb2.trans (hbn.mono hb2.size)).mono HB1.out.size))
  clear hb2 hbn HR1 HB1 HY1 HBB
  go_upto_region 3 with (fail)
  generalize w2.alloc (.cells #[.int .u64 (g2 : Int), .int .u8 (a2 : Int), .int .i64 (sgn r2), .int .i64 (sgn t2), .int .i64 (sgn s2)] 24) = W2 at *
  generalize w2.heap.size = Y2 at *
  obtain ⟨y0, y1, y2, y3, y4⟩ := mcells HY12.out
  obtain ⟨z0, z1, z2, z3, z4⟩ := mcells HY2.out
  obtain ⟨e0, e1, e2, e3, e4⟩ := mcells HR2.out
  obtain ⟨q0, q1, q2, q3, q4⟩ := mfree HR2.out
  have HF := Lib.hid (mstored (a' := .int .u64 (g1 : Int)) (b' := .int .u8 (a1 : Int)) (c' := .int .i64 (sgn r1)) (d' := .int .i64 (sgn t1)) (e' := .int .i64 (sgn s1)) HR2.out)
  have HG := Lib.hid (mkept HB2.out (Nat.le_of_eq HX.out) (.int .u64 (g1 : Int)) (.int .u8 (a1 : Int)) (.int .i64 (sgn r1)) (.int .i64 (sgn t1)) (.int .i64 (sgn s1)))
  clear HY12 HY2 HR2 HB2
  go_wp2_with fail
  refine bodyPost_ret (v := .tuple #[.agg #[.int .u64 (g1 : Int), .int .u8 (a1 : Int), .int .i64 (sgn r1), .int .i64 (sgn t1), .int .i64 (sgn s1)], .int .i64 0, .int .i64 0]) ?_ rfl ⟨rfl, HG.out⟩
  exact results_mp rfl _ _ X _ rfl _ _ rfl rfl rfl HF.out
set_option maxHeartbeats 1000000 in
theorem mp_one (p q : Option Addr) (n c m d : Nat) (w : World) (x y : Int) (g1 a1 r1 t1 s1 g2 a2 r2 t2 s2 : Nat)
    (hA : ∀ w', Below w.heap.size w w' → Calls Tryd.prog 10 #[.slice p n c] w' (GivesMM w' ⟨g1, a1, r1, t1, s1⟩ x)) (hB : ∀ w', Below w.heap.size w w' → Calls Tryd.prog 10 #[.slice q m d] w' (GivesMM w' ⟨g2, a2, r2, t2, s2⟩ y)) (hx : (x == 0) = true) (hy : (y == 0) = false) (hle : (g2 : Int) ≤ (g1 : Int)) :
    Calls Tryd.prog 14 #[.slice p n c, .slice q m d] w fun e w' => e = .returned (.tuple #[.agg #[.int .u64 (g1 : Int), .int .u8 (a1 : Int), .int .i64 (sgn r1), .int .i64 (sgn t1), .int .i64 (sgn s1)], .int .i64 0, .int .i64 0]) ∧ Below w.heap.size w w' := by
  have hx2 : (x != 0) = !(x == 0) := rfl
  have hy2 : (y != 0) = !(y == 0) := rfl
  rw [hx] at hx2
  rw [hy] at hy2
  simp only [Bool.not_true, Bool.not_false] at hx2 hy2
  have hb0 : Below w.heap.size w (w.alloc (.cells #[.int .u64 0, .int .u8 0, .int .i64 0, .int .i64 0, .int .i64 0] 24)) := (Below.refl _ _).alloc (Nat.le_refl _) _
  have hr0 := alloc_block w (.cells #[.int .u64 0, .int .u8 0, .int .i64 0, .int .i64 0, .int .i64 0] 24)
  have HB0 := Lib.hid hb0
  have HR0 := Lib.hid hr0
  have HA := Lib.hid hA
  have HBB := Lib.hid hB
  clear hb0 hr0 hA hB
  obtain ⟨X, hX⟩ : ∃ X, w.heap.size = X := ⟨_, rfl⟩
  have HX := Lib.hid hX
  rw [hX] at HR0
  go_enter Tryd.func14, Tryd.ntmps14
  go_wp2_with fail
  clear hX
  refine (HA.out _ HB0.out).mono ?_
  rintro e w1 ⟨rfl, hb1⟩
  have hbn := ((Below.refl w1.heap.size w1).alloc (Nat.le_refl _) (.cells #[.int .u64 (g1 : Int), .int .u8 (a1 : Int), .int .i64 (sgn r1), .int .i64 (sgn t1), .int .i64 (sgn s1)] 24))
  have HY1 := Lib.hid (alloc_block w1 (.cells #[.int .u64 (g1 : Int), .int .u8 (a1 : Int), .int .i64 (sgn r1), .int .i64 (sgn t1), .int .i64 (sgn s1)] 24))
  have HR1 := Lib.hid (block_later (block_later HR0.out hb1) hbn)
  have HB1 := Lib.hid (HB0.out.trans ((hb1.trans (hbn.mono hb1.size)).mono HB0.out.size))
  clear hb1 hbn HR0 HB0 HA
  go_wp2_with fail
  generalize w1.alloc (.cells #[.int .u64 (g1 : Int), .int .u8 (a1 : Int), .int .i64 (sgn r1), .int .i64 (sgn t1), .int .i64 (sgn s1)] 24) = W1 at *
  generalize w1.heap.size = Y1 at *
  refine (HBB.out _ HB1.out).mono ?_
  rintro e w2 ⟨rfl, hb2⟩
  have hbn := ((Below.refl w2.heap.size w2).alloc (Nat.le_refl _) (.cells #[.int .u64 (g2 : Int), .int .u8 (a2 : Int), .int .i64 (sgn r2), .int .i64 (sgn t2), .int .i64 (sgn s2)] 24))
  have HY2 := Lib.hid (alloc_block w2 (.cells #[.int .u64 (g2 : Int), .int .u8 (a2 : Int), .int .i64 (sgn r2), .int .i64 (sgn t2), .int .i64 (sgn s2)] 24))
  have HR2 := Lib.hid (block_later (block_later HR1.out hb2) hbn)
  have HY12 := Lib.hid (block_later (block_later HY1.out hb2) hbn)
  have HB2 := Lib.hid (HB1.out.trans ((hb2.trans (hbn.mono hb2.size)).mono HB1.out.size))
  clear hb2 hbn HR1 HB1 HY1 HBB
  go_upto_region 3 with (fail)
  generalize w2.alloc (.cells #[.int .u64 (g2 : Int), .int .u8 (a2 : Int), .int .i64 (sgn r2), .int .i64 (sgn t2), .int .i64 (sgn s2)] 24) = W2 at *
  generalize w2.heap.size = Y2 at *
  obtain ⟨y0, y1, y2, y3, y4⟩ := mcells HY12.out
  obtain ⟨z0, z1, z2, z3, z4⟩ := mcells HY2.out
  obtain ⟨e0, e1, e2, e3, e4⟩ := mcells HR2.out
  obtain ⟨q0, q1, q2, q3, q4⟩ := mfree HR2.out
  have HF := Lib.hid (mstored (a' := .int .u64 (g1 : Int)) (b' := .int .u8 (a1 : Int)) (c' := .int .i64 (sgn r1)) (d' := .int .i64 (sgn t1)) (e' := .int .i64 (sgn s1)) HR2.out)
  have HG := Lib.hid (mkept HB2.out (Nat.le_of_eq HX.out) (.int .u64 (g1 : Int)) (.int .u8 (a1 : Int)) (.int .i64 (sgn r1)) (.int .i64 (sgn t1)) (.int .i64 (sgn s1)))
  clear HY12 HY2 HR2 HB2
  go_wp2_with fail
  refine bodyPost_ret (v := .tuple #[.agg #[.int .u64 (g1 : Int), .int .u8 (a1 : Int), .int .i64 (sgn r1), .int .i64 (sgn t1), .int .i64 (sgn s1)], .int .i64 0, .int .i64 0]) ?_ rfl ⟨rfl, HG.out⟩
  exact results_mp rfl _ _ X _ rfl _ _ rfl rfl rfl HF.out
set_option maxHeartbeats 1000000 in
theorem mrp_none (p q : Option Addr) (n c m d : Nat) (w : World) (x y : Int) (g1 a1 r1 t1 s1 g2 a2 r2 t2 s2 : Nat)
    (hA : ∀ w', Below w.heap.size w w' → Calls Tryd.prog 11 #[.slice p n c] w' (GivesMM w' ⟨g1, a1, r1, t1, s1⟩ x)) (hB : ∀ w', Below w.heap.size w w' → Calls Tryd.prog 11 #[.slice q m d] w' (GivesMM w' ⟨g2, a2, r2, t2, s2⟩ y)) (hx : (x == 0) = false) (hy : (y == 0) = false) :
    Calls Tryd.prog 15 #[.slice p n c, .slice q m d] w fun e w' => e = .returned (.tuple #[.agg #[.int .u64 0, .int .u8 0, .int .i64 0, .int .i64 0, .int .i64 0], .int .i64 0, .int .i64 13]) ∧ Below w.heap.size w w' := by
  have hx2 : (x != 0) = !(x == 0) := rfl
  have hy2 : (y != 0) = !(y == 0) := rfl
  rw [hx] at hx2
  rw [hy] at hy2
  simp only [Bool.not_true, Bool.not_false] at hx2 hy2
  have hb0 : Below w.heap.size w (w.alloc (.cells #[.int .u64 0, .int .u8 0, .int .i64 0, .int .i64 0, .int .i64 0] 24)) := (Below.refl _ _).alloc (Nat.le_refl _) _
  have hr0 := alloc_block w (.cells #[.int .u64 0, .int .u8 0, .int .i64 0, .int .i64 0, .int .i64 0] 24)
  have HB0 := Lib.hid hb0
  have HR0 := Lib.hid hr0
  have HA := Lib.hid hA
  have HBB := Lib.hid hB
  clear hb0 hr0 hA hB
  obtain ⟨X, hX⟩ : ∃ X, w.heap.size = X := ⟨_, rfl⟩
  have HX := Lib.hid hX
  rw [hX] at HR0
  go_enter Tryd.func15, Tryd.ntmps15
  go_wp2_with fail
  clear hX
  refine (HA.out _ HB0.out).mono ?_
  rintro e w1 ⟨rfl, hb1⟩
  have hbn := ((Below.refl w1.heap.size w1).alloc (Nat.le_refl _) (.cells #[.int .u64 (g1 : Int), .int .u8 (a1 : Int), .int .i64 (sgn r1), .int .i64 (sgn t1), .int .i64 (sgn s1)] 24))
  have HY1 := Lib.hid (alloc_block w1 (.cells #[.int .u64 (g1 : Int), .int .u8 (a1 : Int), .int .i64 (sgn r1), .int .i64 (sgn t1), .int .i64 (sgn s1)] 24))
  have HR1 := Lib.hid (block_later (block_later HR0.out hb1) hbn)
  have HB1 := Lib.hid (HB0.out.trans ((hb1.trans (hbn.mono hb1.size)).mono HB0.out.size))
  clear hb1 hbn HR0 HB0 HA
  go_wp2_with fail
  generalize w1.alloc (.cells #[.int .u64 (g1 : Int), .int .u8 (a1 : Int), .int .i64 (sgn r1), .int .i64 (sgn t1), .int .i64 (sgn s1)] 24) = W1 at *
  generalize w1.heap.size = Y1 at *
  refine (HBB.out _ HB1.out).mono ?_
  rintro e w2 ⟨rfl, hb2⟩
  have hbn := ((Below.refl w2.heap.size w2).alloc (Nat.le_refl _) (.cells #[.int .u64 (g2 : Int), .int .u8 (a2 : Int), .int .i64 (sgn r2), .int .i64 (sgn t2), .int .i64 (sgn s2)] 24))
  have HY2 := Lib.hid (alloc_block w2 (.cells #[.int .u64 (g2 : Int), .int .u8 (a2 : Int), .int .i64 (sgn r2), .int .i64 (sgn t2), .int .i64 (sgn s2)] 24))
  have HR2 := Lib.hid (block_later (block_later HR1.out hb2) hbn)
  have HY12 := Lib.hid (block_later (block_later HY1.out hb2) hbn)
  have HB2 := Lib.hid (HB1.out.trans ((hb2.trans (hbn.mono hb2.size)).mono HB1.out.size))
  clear hb2 hbn HR1 HB1 HY1 HBB
  go_upto_region 3 with (fail)
  generalize w2.alloc (.cells #[.int .u64 (g2 : Int), .int .u8 (a2 : Int), .int .i64 (sgn r2), .int .i64 (sgn t2), .int .i64 (sgn s2)] 24) = W2 at *
  generalize w2.heap.size = Y2 at *
  obtain ⟨y0, y1, y2, y3, y4⟩ := mcells HY12.out
  obtain ⟨z0, z1, z2, z3, z4⟩ := mcells HY2.out
  obtain ⟨e0, e1, e2, e3, e4⟩ := mcells HR2.out
  obtain ⟨q0, q1, q2, q3, q4⟩ := mfree HR2.out
  have HF := Lib.hid (mstored (a' := .int .u64 0) (b' := .int .u8 0) (c' := .int .i64 0) (d' := .int .i64 0) (e' := .int .i64 0) HR2.out)
  have HG := Lib.hid (mkept HB2.out (Nat.le_of_eq HX.out) (.int .u64 0) (.int .u8 0) (.int .i64 0) (.int .i64 0) (.int .i64 0))
  clear HY12 HY2 HR2 HB2
  go_wp2_with fail
  refine bodyPost_ret (v := .tuple #[.agg #[.int .u64 0, .int .u8 0, .int .i64 0, .int .i64 0, .int .i64 0], .int .i64 0, .int .i64 13]) ?_ rfl ⟨rfl, HG.out⟩
  exact results_mp rfl _ _ X _ rfl _ _ rfl rfl rfl HF.out
set_option maxHeartbeats 1000000 in
theorem mrp_snd (p q : Option Addr) (n c m d : Nat) (w : World) (x y : Int) (g1 a1 r1 t1 s1 g2 a2 r2 t2 s2 : Nat)
    (hA : ∀ w', Below w.heap.size w w' → Calls Tryd.prog 11 #[.slice p n c] w' (GivesMM w' ⟨g1, a1, r1, t1, s1⟩ x)) (hB : ∀ w', Below w.heap.size w w' → Calls Tryd.prog 11 #[.slice q m d] w' (GivesMM w' ⟨g2, a2, r2, t2, s2⟩ y)) (hx : (x == 0) = false) (hy : (y == 0) = true) :
    Calls Tryd.prog 15 #[.slice p n c, .slice q m d] w fun e w' => e = .returned (.tuple #[.agg #[.int .u64 (g2 : Int), .int .u8 (a2 : Int), .int .i64 (sgn r2), .int .i64 (sgn t2), .int .i64 (sgn s2)], .int .i64 1, .int .i64 0]) ∧ Below w.heap.size w w' := by
  have hx2 : (x != 0) = !(x == 0) := rfl
  have hy2 : (y != 0) = !(y == 0) := rfl
  rw [hx] at hx2
  rw [hy] at hy2
  simp only [Bool.not_true, Bool.not_false] at hx2 hy2
  have hb0 : Below w.heap.size w (w.alloc (.cells #[.int .u64 0, .int .u8 0, .int .i64 0, .int .i64 0, .int .i64 0] 24)) := (Below.refl _ _).alloc (Nat.le_refl _) _
  have hr0 := alloc_block w (.cells #[.int .u64 0, .int .u8 0, .int .i64 0, .int .i64 0, .int .i64 0] 24)
  have HB0 := Lib.hid hb0
  have HR0 := Lib.hid hr0
  have HA := Lib.hid hA
  have HBB := Lib.hid hB
  clear hb0 hr0 hA hB
  obtain ⟨X, hX⟩ : ∃ X, w.heap.size = X := ⟨_, rfl⟩
  have HX := Lib.hid hX
  rw [hX] at HR0
  go_enter Tryd.func15, Tryd.ntmps15
  go_wp2_with fail
  clear hX
  refine (HA.out _ HB0.out).mono ?_
  rintro e w1 ⟨rfl, hb1⟩
  have hbn := ((Below.refl w1.heap.size w1).alloc (Nat.le_refl _) (.cells #[.int .u64 (g1 : Int), .int .u8 (a1 : Int), .int .i64 (sgn r1), .int .i64 (sgn t1), .int .i64 (sgn s1)] 24))
  have HY1 := Lib.hid (alloc_block w1 (.cells #[.int .u64 (g1 : Int), .int .u8 (a1 : Int), .int .i64 (sgn r1), .int .i64 (sgn t1), .int .i64 (sgn s1)] 24))
  have HR1 := Lib.hid (block_later (block_later HR0.out hb1) hbn)
  have HB1 := Lib.hid (HB0.out.trans ((hb1.trans (hbn.mono hb1.size)).mono HB0.out.size))
  clear hb1 hbn HR0 HB0 HA
  go_wp2_with fail
  generalize w1.alloc (.cells #[.int .u64 (g1 : Int), .int .u8 (a1 : Int), .int .i64 (sgn r1), .int .i64 (sgn t1), .int .i64 (sgn s1)] 24) = W1 at *
  generalize w1.heap.size = Y1 at *
  refine (HBB.out _ HB1.out).mono ?_
  rintro e w2 ⟨rfl, hb2⟩
  have hbn := ((Below.refl w2.heap.size w2).alloc (Nat.le_refl _) (.cells #[.int .u64 (g2 : Int), .int .u8 (a2 : Int), .int .i64 (sgn r2), .int .i64 (sgn t2), .int .i64 (sgn s2)] 24))
  have HY2 := Lib.hid (alloc_block w2 (.cells #[.int .u64 (g2 : Int), .int .u8 (a2 : Int), .int .i64 (sgn r2), .int .i64 (sgn t2), .int .i64 (sgn s2)] 24))
  have HR2 := Lib.hid (block_later (block_later HR1.out hb2) hbn)
  have HY12 := Lib.hid (block_later (block_later HY1.out hb2) hbn)
  have HB2 := Lib.hid (HB1.out.trans ((hb2.trans (hbn.mono hb2.size)).mono HB1.out.size))
  clear hb2 hbn HR1 HB1 HY1 HBB
  go_upto_region 3 with (fail)
  generalize w2.alloc (.cells #[.int .u64 (g2 : Int), .int .u8 (a2 : Int), .int .i64 (sgn r2), .int .i64 (sgn t2), .int .i64 (sgn s2)] 24) = W2 at *
  generalize w2.heap.size = Y2 at *
  obtain ⟨y0, y1, y2, y3, y4⟩ := mcells HY12.out
  obtain ⟨z0, z1, z2, z3, z4⟩ := mcells HY2.out
  obtain ⟨e0, e1, e2, e3, e4⟩ := mcells HR2.out
  obtain ⟨q0, q1, q2, q3, q4⟩ := mfree HR2.out
  have HF := Lib.hid (mstored (a' := .int .u64 (g2 : Int)) (b' := .int .u8 (a2 : Int)) (c' := .int .i64 (sgn r2)) (d' := .int .i64 (sgn t2)) (e' := .int .i64 (sgn s2)) HR2.out)
  have HG := Lib.hid (mkept HB2.out (Nat.le_of_eq HX.out) (.int .u64 (g2 : Int)) (.int .u8 (a2 : Int)) (.int .i64 (sgn r2)) (.int .i64 (sgn t2)) (.int .i64 (sgn s2)))
  clear HY12 HY2 HR2 HB2
  go_wp2_with fail
  refine bodyPost_ret (v := .tuple #[.agg #[.int .u64 (g2 : Int), .int .u8 (a2 : Int), .int .i64 (sgn r2), .int .i64 (sgn t2), .int .i64 (sgn s2)], .int .i64 1, .int .i64 0]) ?_ rfl ⟨rfl, HG.out⟩
  exact results_mp rfl _ _ X _ rfl _ _ rfl rfl rfl HF.out
set_option maxHeartbeats 1000000 in
theorem mrp_gt (p q : Option Addr) (n c m d : Nat) (w : World) (x y : Int) (g1 a1 r1 t1 s1 g2 a2 r2 t2 s2 : Nat)
    (hA : ∀ w', Below w.heap.size w w' → Calls Tryd.prog 11 #[.slice p n c] w' (GivesMM w' ⟨g1, a1, r1, t1, s1⟩ x)) (hB : ∀ w', Below w.heap.size w w' → Calls Tryd.prog 11 #[.slice q m d] w' (GivesMM w' ⟨g2, a2, r2, t2, s2⟩ y)) (hx : (x == 0) = true) (hy : (y == 0) = true) (hgt : (g1 : Int) < (g2 : Int)) :
    Calls Tryd.prog 15 #[.slice p n c, .slice q m d] w fun e w' => e = .returned (.tuple #[.agg #[.int .u64 (g2 : Int), .int .u8 (a2 : Int), .int .i64 (sgn r2), .int .i64 (sgn t2), .int .i64 (sgn s2)], .int .i64 1, .int .i64 0]) ∧ Below w.heap.size w w' := by
  have hx2 : (x != 0) = !(x == 0) := rfl
  have hy2 : (y != 0) = !(y == 0) := rfl
  rw [hx] at hx2
  rw [hy] at hy2
  simp only [Bool.not_true, Bool.not_false] at hx2 hy2
  have hb0 : Below w.heap.size w (w.alloc (.cells #[.int .u64 0, .int .u8 0, .int .i64 0, .int .i64 0, .int .i64 0] 24)) := (Below.refl _ _).alloc (Nat.le_refl _) _
  have hr0 := alloc_block w (.cells #[.int .u64 0, .int .u8 0, .int .i64 0, .int .i64 0, .int .i64 0] 24)
  have HB0 := Lib.hid hb0
  have HR0 := Lib.hid hr0
  have HA := Lib.hid hA
  have HBB := Lib.hid hB
  clear hb0 hr0 hA hB
  obtain ⟨X, hX⟩ : ∃ X, w.heap.size = X := ⟨_, rfl⟩
  have HX := Lib.hid hX
  rw [hX] at HR0
  go_enter Tryd.func15, Tryd.ntmps15
  go_wp2_with fail
  clear hX
  refine (HA.out _ HB0.out).mono ?_
  rintro e w1 ⟨rfl, hb1⟩
  have hbn := ((Below.refl w1.heap.size w1).alloc (Nat.le_refl _) (.cells #[.int .u64 (g1 : Int), .int .u8 (a1 : Int), .int .i64 (sgn r1), .int .i64 (sgn t1), .int .i64 (sgn s1)] 24))
  have HY1 := Lib.hid (alloc_block w1 (.cells #[.int .u64 (g1 : Int), .int .u8 (a1 : Int), .int .i64 (sgn r1), .int .i64 (sgn t1), .int .i64 (sgn s1)] 24))
  have HR1 := Lib.hid (block_later (block_later HR0.out hb1) hbn)
  have HB1 := Lib.hid (HB0.out.trans ((hb1.trans (hbn.mono hb1.size)).mono HB0.out.size))
  clear hb1 hbn HR0 HB0 HA
  go_wp2_with fail
  generalize w1.alloc (.cells #[.int .u64 (g1 : Int), .int .u8 (a1 : Int), .int .i64 (sgn r1), .int .i64 (sgn t1), .int .i64 (sgn s1)] 24) = W1 at *
  generalize w1.heap.size = Y1 at *
  refine (HBB.out _ HB1.out).mono ?_
  rintro e w2 ⟨rfl, hb2⟩
  have hbn := ((Below.refl w2.heap.size w2).alloc (Nat.le_refl _) (.cells #[.int .u64 (g2 : Int), .int .u8 (a2 : Int), .int .i64 (sgn r2), .int .i64 (sgn t2), .int .i64 (sgn s2)] 24))
  have HY2 := Lib.hid (alloc_block w2 (.cells #[.int .u64 (g2 : Int), .int .u8 (a2 : Int), .int .i64 (sgn r2), .int .i64 (sgn t2), .int .i64 (sgn s2)] 24))
  have HR2 := Lib.hid (block_later (block_later HR1.out hb2) hbn)
  have HY12 := Lib.hid (block_later (block_later HY1.out hb2) hbn)
  have HB2 := Lib.hid (HB1.out.trans ((hb2.trans (hbn.mono hb2.size)).mono HB1.out.size))
  clear hb2 hbn HR1 HB1 HY1 HBB
  go_upto_region 3 with (fail)
  generalize w2.alloc (.cells #[.int .u64 (g2 : Int), .int .u8 (a2 : Int), .int .i64 (sgn r2), .int .i64 (sgn t2), .int .i64 (sgn s2)] 24) = W2 at *
  generalize w2.heap.size = Y2 at *
  obtain ⟨y0, y1, y2, y3, y4⟩ := mcells HY12.out
  obtain ⟨z0, z1, z2, z3, z4⟩ := mcells HY2.out
  obtain ⟨e0, e1, e2, e3, e4⟩ := mcells HR2.out
  obtain ⟨q0, q1, q2, q3, q4⟩ := mfree HR2.out
  have HF := Lib.hid (mstored (a' := .int .u64 (g2 : Int)) (b' := .int .u8 (a2 : Int)) (c' := .int .i64 (sgn r2)) (d' := .int .i64 (sgn t2)) (e' := .int .i64 (sgn s2)) HR2.out)
  have HG := Lib.hid (mkept HB2.out (Nat.le_of_eq HX.out) (.int .u64 (g2 : Int)) (.int .u8 (a2 : Int)) (.int .i64 (sgn r2)) (.int .i64 (sgn t2)) (.int .i64 (sgn s2)))
  clear HY12 HY2 HR2 HB2
  go_wp2_with fail
  refine bodyPost_ret (v := .tuple #[.agg #[.int .u64 (g2 : Int), .int .u8 (a2 : Int), .int .i64 (sgn r2), .int .i64 (sgn t2), .int .i64 (sgn s2)], .int .i64 1, .int .i64 0]) ?_ rfl ⟨rfl, HG.out⟩
  exact results_mp rfl _ _ X _ rfl _ _ rfl rfl rfl HF.out
set_option maxHeartbeats 1000000 in
theorem mrp_fst (p q : Option Addr) (n c m d : Nat) (w : World) (x y : Int) (g1 a1 r1 t1 s1 g2 a2 r2 t2 s2 : Nat)
    (hA : ∀ w', Below w.heap.size w w' → Calls Tryd.prog 11 #[.slice p n c] w' (GivesMM w' ⟨g1, a1, r1, t1, s1⟩ x)) (hB : ∀ w', Below w.heap.size w w' → Calls Tryd.prog 11 #[.slice q m d] w' (GivesMM w' ⟨g2, a2, r2, t2, s2⟩ y)) (hx : (x == 0) = true) (hy : (y == 0) = true) (hle : (g2 : Int) ≤ (g1 : Int)) :
    Calls Tryd.prog 15 #[.slice p n c, .slice q m d] w fun e w' => e = .returned (.tuple #[.agg #[.int .u64 (g1 : Int), .int .u8 (a1 : Int), .int .i64 (sgn r1), .int .i64 (sgn t1), .int .i64 (sgn s1)], .int .i64 0, .int .i64 0]) ∧ Below w.heap.size w w' := by
  have hx2 : (x != 0) = !(x == 0) := rfl
  have hy2 : (y != 0) = !(y == 0) := rfl
  rw [hx] at hx2
  rw [hy] at hy2
  simp only [Bool.not_true, Bool.not_false] at hx2 hy2
  have hb0 : Below w.heap.size w (w.alloc (.cells #[.int .u64 0, .int .u8 0, .int .i64 0, .int .i64 0, .int .i64 0] 24)) := (Below.refl _ _).alloc (Nat.le_refl _) _
  have hr0 := alloc_block w (.cells #[.int .u64 0, .int .u8 0, .int .i64 0, .int .i64 0, .int .i64 0] 24)
  have HB0 := Lib.hid hb0
  have HR0 := Lib.hid hr0
  have HA := Lib.hid hA
  have HBB := Lib.hid hB
  clear hb0 hr0 hA hB
  obtain ⟨X, hX⟩ : ∃ X, w.heap.size = X := ⟨_, rfl⟩
  have HX := Lib.hid hX
  rw [hX] at HR0
  go_enter Tryd.func15, Tryd.ntmps15
  go_wp2_with fail
  clear hX
  refine (HA.out _ HB0.out).mono ?_
  rintro e w1 ⟨rfl, hb1⟩
  have hbn := ((Below.refl w1.heap.size w1).alloc (Nat.le_refl _) (.cells #[.int .u64 (g1 : Int), .int .u8 (a1 : Int), .int .i64 (sgn r1), .int .i64 (sgn t1), .int .i64 (sgn s1)] 24))
  have HY1 := Lib.hid (alloc_block w1 (.cells #[.int .u64 (g1 : Int), .int .u8 (a1 : Int), .int .i64 (sgn r1), .int .i64 (sgn t1), .int .i64 (sgn s1)] 24))
  have HR1 := Lib.hid (block_later (block_later HR0.out hb1) hbn)
  have HB1 := Lib.hid (HB0.out.trans ((hb1.trans (hbn.mono hb1.size)).mono HB0.out.size))
  clear hb1 hbn HR0 HB0 HA
  go_wp2_with fail
  generalize w1.alloc (.cells #[.int .u64 (g1 : Int), .int .u8 (a1 : Int), .int .i64 (sgn r1), .int .i64 (sgn t1), .int .i64 (sgn s1)] 24) = W1 at *
  generalize w1.heap.size = Y1 at *
  refine (HBB.out _ HB1.out).mono ?_
  rintro e w2 ⟨rfl, hb2⟩
  have hbn := ((Below.refl w2.heap.size w2).alloc (Nat.le_refl _) (.cells #[.int .u64 (g2 : Int), .int .u8 (a2 : Int), .int .i64 (sgn r2), .int .i64 (sgn t2), .int .i64 (sgn s2)] 24))
  have HY2 := Lib.hid (alloc_block w2 (.cells #[.int .u64 (g2 : Int), .int .u8 (a2 : Int), .int .i64 (sgn r2), .int .i64 (sgn t2), .int .i64 (sgn s2)] 24))
  have HR2 := Lib.hid (block_later (block_later HR1.out hb2) hbn)
  have HY12 := Lib.hid (block_later (block_later HY1.out hb2) hbn)
  have HB2 := Lib.hid (HB1.out.trans ((hb2.trans (hbn.mono hb2.size)).mono HB1.out.size))
  clear hb2 hbn HR1 HB1 HY1 HBB
  go_upto_region 3 with (fail)
  generalize w2.alloc (.cells #[.int .u64 (g2 : Int), .int .u8 (a2 : Int), .int .i64 (sgn r2), .int .i64 (sgn t2), .int .i64 (sgn s2)] 24) = W2 at *
  generalize w2.heap.size = Y2 at *
  obtain ⟨y0, y1, y2, y3, y4⟩ := mcells HY12.out
  obtain ⟨z0, z1, z2, z3, z4⟩ := mcells HY2.out
  obtain ⟨e0, e1, e2, e3, e4⟩ := mcells HR2.out
  obtain ⟨q0, q1, q2, q3, q4⟩ := mfree HR2.out
  have HF := Lib.hid (mstored (a' := .int .u64 (g1 : Int)) (b' := .int .u8 (a1 : Int)) (c' := .int .i64 (sgn r1)) (d' := .int .i64 (sgn t1)) (e' := .int .i64 (sgn s1)) HR2.out)
  have HG := Lib.hid (mkept HB2.out (Nat.le_of_eq HX.out) (.int .u64 (g1 : Int)) (.int .u8 (a1 : Int)) (.int .i64 (sgn r1)) (.int .i64 (sgn t1)) (.int .i64 (sgn s1)))
  clear HY12 HY2 HR2 HB2
  go_wp2_with fail
  refine bodyPost_ret (v := .tuple #[.agg #[.int .u64 (g1 : Int), .int .u8 (a1 : Int), .int .i64 (sgn r1), .int .i64 (sgn t1), .int .i64 (sgn s1)], .int .i64 0, .int .i64 0]) ?_ rfl ⟨rfl, HG.out⟩
  exact results_mp rfl _ _ X _ rfl _ _ rfl rfl rfl HF.out
set_option maxHeartbeats 1000000 in
theorem mrp_one (p q : Option Addr) (n c m d : Nat) (w : World) (x y : Int) (g1 a1 r1 t1 s1 g2 a2 r2 t2 s2 : Nat)
    (hA : ∀ w', Below w.heap.size w w' → Calls Tryd.prog 11 #[.slice p n c] w' (GivesMM w' ⟨g1, a1, r1, t1, s1⟩ x)) (hB : ∀ w', Below w.heap.size w w' → Calls Tryd.prog 11 #[.slice q m d] w' (GivesMM w' ⟨g2, a2, r2, t2, s2⟩ y)) (hx : (x == 0) = true) (hy : (y == 0) = false) :
    Calls Tryd.prog 15 #[.slice p n c, .slice q m d] w fun e w' => e = .returned (.tuple #[.agg #[.int .u64 (g1 : Int), .int .u8 (a1 : Int), .int .i64 (sgn r1), .int .i64 (sgn t1), .int .i64 (sgn s1)], .int .i64 0, .int .i64 0]) ∧ Below w.heap.size w w' := by
  have hx2 : (x != 0) = !(x == 0) := rfl
  have hy2 : (y != 0) = !(y == 0) := rfl
  rw [hx] at hx2
  rw [hy] at hy2
  simp only [Bool.not_true, Bool.not_false] at hx2 hy2
  have hb0 : Below w.heap.size w (w.alloc (.cells #[.int .u64 0, .int .u8 0, .int .i64 0, .int .i64 0, .int .i64 0] 24)) := (Below.refl _ _).alloc (Nat.le_refl _) _
  have hr0 := alloc_block w (.cells #[.int .u64 0, .int .u8 0, .int .i64 0, .int .i64 0, .int .i64 0] 24)
  have HB0 := Lib.hid hb0
  have HR0 := Lib.hid hr0
  have HA := Lib.hid hA
  have HBB := Lib.hid hB
  clear hb0 hr0 hA hB
  obtain ⟨X, hX⟩ : ∃ X, w.heap.size = X := ⟨_, rfl⟩
  have HX := Lib.hid hX
  rw [hX] at HR0
  go_enter Tryd.func15, Tryd.ntmps15
  go_wp2_with fail
  clear hX
  refine (HA.out _ HB0.out).mono ?_
  rintro e w1 ⟨rfl, hb1⟩
  have hbn := ((Below.refl w1.heap.size w1).alloc (Nat.le_refl _) (.cells #[.int .u64 (g1 : Int), .int .u8 (a1 : Int), .int .i64 (sgn r1), .int .i64 (sgn t1), .int .i64 (sgn s1)] 24))
  have HY1 := Lib.hid (alloc_block w1 (.cells #[.int .u64 (g1 : Int), .int .u8 (a1 : Int), .int .i64 (sgn r1), .int .i64 (sgn t1), .int .i64 (sgn s1)] 24))
  have HR1 := Lib.hid (block_later (block_later HR0.out hb1) hbn)
  have HB1 := Lib.hid (HB0.out.trans ((hb1.trans (hbn.mono hb1.size)).mono HB0.out.size))
  clear hb1 hbn HR0 HB0 HA
  go_wp2_with fail
  generalize w1.alloc (.cells #[.int .u64 (g1 : Int), .int .u8 (a1 : Int), .int .i64 (sgn r1), .int .i64 (sgn t1), .int .i64 (sgn s1)] 24) = W1 at *
  generalize w1.heap.size = Y1 at *
  refine (HBB.out _ HB1.out).mono ?_
  rintro e w2 ⟨rfl, hb2⟩
  have hbn := ((Below.refl w2.heap.size w2).alloc (Nat.le_refl _) (.cells #[.int .u64 (g2 : Int), .int .u8 (a2 : Int), .int .i64 (sgn r2), .int .i64 (sgn t2), .int .i64 (sgn s2)] 24))
  have HY2 := Lib.hid (alloc_block w2 (.cells #[.int .u64 (g2 : Int), .int .u8 (a2 : Int), .int .i64 (sgn r2), .int .i64 (sgn t2), .int .i64 (sgn s2)] 24))
  have HR2 := Lib.hid (block_later (block_later HR1.out hb2) hbn)
  have HY12 := Lib.hid (block_later (block_later HY1.out hb2) hbn)
  have HB2 := Lib.hid (HB1.out.trans ((hb2.trans (hbn.mono hb2.size)).mono HB1.out.size))
  clear hb2 hbn HR1 HB1 HY1 HBB
  go_upto_region 3 with (fail)
  generalize w2.alloc (.cells #[.int .u64 (g2 : Int), .int .u8 (a2 : Int), .int .i64 (sgn r2), .int .i64 (sgn t2), .int .i64 (sgn s2)] 24) = W2 at *
  generalize w2.heap.size = Y2 at *
  obtain ⟨y0, y1, y2, y3, y4⟩ := mcells HY12.out
  obtain ⟨z0, z1, z2, z3, z4⟩ := mcells HY2.out
  obtain ⟨e0, e1, e2, e3, e4⟩ := mcells HR2.out
  obtain ⟨q0, q1, q2, q3, q4⟩ := mfree HR2.out
  have HF := Lib.hid (mstored (a' := .int .u64 (g1 : Int)) (b' := .int .u8 (a1 : Int)) (c' := .int .i64 (sgn r1)) (d' := .int .i64 (sgn t1)) (e' := .int .i64 (sgn s1)) HR2.out)
  have HG := Lib.hid (mkept HB2.out (Nat.le_of_eq HX.out) (.int .u64 (g1 : Int)) (.int .u8 (a1 : Int)) (.int .i64 (sgn r1)) (.int .i64 (sgn t1)) (.int .i64 (sgn s1)))
  clear HY12 HY2 HR2 HB2
  go_wp2_with fail
  refine bodyPost_ret (v := .tuple #[.agg #[.int .u64 (g1 : Int), .int .u8 (a1 : Int), .int .i64 (sgn r1), .int .i64 (sgn t1), .int .i64 (sgn s1)], .int .i64 0, .int .i64 0]) ?_ rfl ⟨rfl, HG.out⟩
  exact results_mp rfl _ _ X _ rfl _ _ rfl rfl rfl HF.out
theorem mpick_any (p q : Option Addr) (n c m d : Nat) (A B : List Nat) (w : World) (hA : Sl w p n c A) (hB : Sl w q m d B) (hc : c ≤ maxLen) (hd : d ≤ maxLen) (hn : n ≤ 1000000) (hm : m ≤ 1000000) (hT : Tab w) :
    Calls Tryd.prog 14 #[.slice p n c, .slice q m d] w (GivesMP w (pickV A B) (pickK A B) (pickE A B)) := by
  have h1 := fun (w' : World) (hb : Below w.heap.size w w') => mdec_any _ _ _ _ w' (hA.later hb) hc (by omega) (hT.later hb hT.lt)
  have h2 := fun (w' : World) (hb : Below w.heap.size w w') => mdec_any _ _ _ _ w' (hB.later hb) hd (by omega) (hT.later hb hT.lt)
  unfold pickV pickK pickE
  have z1 : dE A ≠ 0 → dV A = mz := dV_bad
  have z2 : dE B ≠ 0 → dV B = mz := dV_bad
  have g1 : dE A = 0 → 0 < (dV A).g := dV_gen
  have g2 : dE B = 0 → 0 < (dV B).g := dV_gen
  generalize dE A = x at *
  generalize dE B = y at *
  generalize dV A = u at *
  generalize dV B = v at *
  obtain ⟨u1, u2, u3, u4, u5⟩ := u
  obtain ⟨v1, v2, v3, v4, v5⟩ := v
  replace g1 : x = 0 → 0 < u1 := g1
  replace g2 : y = 0 → 0 < v1 := g2
  show Calls Tryd.prog _ _ w (GivesMP w (if x = 0 ∧ (y ≠ 0 ∨ v1 ≤ u1) then ⟨u1, u2, u3, u4, u5⟩ else ⟨v1, v2, v3, v4, v5⟩) (if x = 0 ∧ (y ≠ 0 ∨ v1 ≤ u1) then 0 else if y = 0 then 1 else 0) (if x = 0 ∨ y = 0 then 0 else 13))
  by_cases hx : x = 0
  · have hxb : (x == 0) = true := by simpa using hx
    by_cases hy : y = 0
    · have hyb : (y == 0) = true := by simpa using hy
      by_cases hg : v1 ≤ u1
      · rw [if_pos ⟨hx, .inr hg⟩, if_pos ⟨hx, .inr hg⟩, if_pos (.inl hx)]
        exact mp_fst p q n c m d w x y u1 u2 u3 u4 u5 v1 v2 v3 v4 v5 h1 h2 hxb hyb (by omega)
      · have hno : ¬ (x = 0 ∧ (y ≠ 0 ∨ v1 ≤ u1)) := fun h => h.2.elim (fun h => h hy) hg
        rw [if_neg hno, if_neg hno, if_pos hy, if_pos (.inl hx)]
        exact mp_gt p q n c m d w x y u1 u2 u3 u4 u5 v1 v2 v3 v4 v5 h1 h2 hxb hyb (by omega)
    · have hyb : (y == 0) = false := by simpa using hy
      have hzv := z2 hy
      rw [if_pos ⟨hx, .inl hy⟩, if_pos ⟨hx, .inl hy⟩, if_pos (.inl hx)]
      have hv1 : v1 = 0 := congrArg Mv.g hzv
      exact mp_one p q n c m d w x y u1 u2 u3 u4 u5 v1 v2 v3 v4 v5 h1 h2 hxb hyb (by omega)
  · have hxb : (x == 0) = false := by simpa using hx
    have hno : ¬ (x = 0 ∧ (y ≠ 0 ∨ v1 ≤ u1)) := fun h => hx h.1
    have hu1 : u1 = 0 := congrArg Mv.g (z1 hx)
    by_cases hy : y = 0
    · have hyb : (y == 0) = true := by simpa using hy
      have := g2 hy
      rw [if_neg hno, if_neg hno, if_pos hy, if_pos (.inr hy)]
      exact mp_snd p q n c m d w x y u1 u2 u3 u4 u5 v1 v2 v3 v4 v5 h1 h2 hxb hyb (by omega)
    · have hyb : (y == 0) = false := by simpa using hy
      have hzv := z2 hy
      rw [if_neg hno, if_neg hno, if_neg hy, if_neg (by rintro (h | h); exact hx h; exact hy h), hzv]
      exact mp_none p q n c m d w x y u1 u2 u3 u4 u5 v1 v2 v3 v4 v5 h1 h2 hxb hyb
theorem mrpick_any (p q : Option Addr) (n c m d : Nat) (A B : List Nat) (w : World) (hA : Sl w p n c A) (hB : Sl w q m d B) (hc : c ≤ maxLen) (hd : d ≤ maxLen) (hn : n ≤ 1000000) (hm : m ≤ 1000000) :
    Calls Tryd.prog 15 #[.slice p n c, .slice q m d] w (GivesMP w (pickV A B) (pickK A B) (pickE A B)) := by
  have h1 := fun (w' : World) (hb : Below w.heap.size w w') => mrdec_any _ _ _ _ w' (hA.later hb) hc (by omega)
  have h2 := fun (w' : World) (hb : Below w.heap.size w w') => mrdec_any _ _ _ _ w' (hB.later hb) hd (by omega)
  unfold pickV pickK pickE
  have z1 : dE A ≠ 0 → dV A = mz := dV_bad
  have z2 : dE B ≠ 0 → dV B = mz := dV_bad
  have g1 : dE A = 0 → 0 < (dV A).g := dV_gen
  have g2 : dE B = 0 → 0 < (dV B).g := dV_gen
  generalize dE A = x at *
  generalize dE B = y at *
  generalize dV A = u at *
  generalize dV B = v at *
  obtain ⟨u1, u2, u3, u4, u5⟩ := u
  obtain ⟨v1, v2, v3, v4, v5⟩ := v
  replace g1 : x = 0 → 0 < u1 := g1
  replace g2 : y = 0 → 0 < v1 := g2
  show Calls Tryd.prog _ _ w (GivesMP w (if x = 0 ∧ (y ≠ 0 ∨ v1 ≤ u1) then ⟨u1, u2, u3, u4, u5⟩ else ⟨v1, v2, v3, v4, v5⟩) (if x = 0 ∧ (y ≠ 0 ∨ v1 ≤ u1) then 0 else if y = 0 then 1 else 0) (if x = 0 ∨ y = 0 then 0 else 13))
  by_cases hx : x = 0
  · have hxb : (x == 0) = true := by simpa using hx
    by_cases hy : y = 0
    · have hyb : (y == 0) = true := by simpa using hy
      by_cases hg : v1 ≤ u1
      · rw [if_pos ⟨hx, .inr hg⟩, if_pos ⟨hx, .inr hg⟩, if_pos (.inl hx)]
        exact mrp_fst p q n c m d w x y u1 u2 u3 u4 u5 v1 v2 v3 v4 v5 h1 h2 hxb hyb (by omega)
      · have hno : ¬ (x = 0 ∧ (y ≠ 0 ∨ v1 ≤ u1)) := fun h => h.2.elim (fun h => h hy) hg
        rw [if_neg hno, if_neg hno, if_pos hy, if_pos (.inl hx)]
        exact mrp_gt p q n c m d w x y u1 u2 u3 u4 u5 v1 v2 v3 v4 v5 h1 h2 hxb hyb (by omega)
    · have hyb : (y == 0) = false := by simpa using hy
      have hzv := z2 hy
      rw [if_pos ⟨hx, .inl hy⟩, if_pos ⟨hx, .inl hy⟩, if_pos (.inl hx)]
      have hv1 : v1 = 0 := congrArg Mv.g hzv
      exact mrp_one p q n c m d w x y u1 u2 u3 u4 u5 v1 v2 v3 v4 v5 h1 h2 hxb hyb
  · have hxb : (x == 0) = false := by simpa using hx
    have hno : ¬ (x = 0 ∧ (y ≠ 0 ∨ v1 ≤ u1)) := fun h => hx h.1
    have hu1 : u1 = 0 := congrArg Mv.g (z1 hx)
    by_cases hy : y = 0
    · have hyb : (y == 0) = true := by simpa using hy
      have := g2 hy
      rw [if_neg hno, if_neg hno, if_pos hy, if_pos (.inr hy)]
      exact mrp_snd p q n c m d w x y u1 u2 u3 u4 u5 v1 v2 v3 v4 v5 h1 h2 hxb hyb
    · have hyb : (y == 0) = false := by simpa using hy
      have hzv := z2 hy
      rw [if_neg hno, if_neg hno, if_neg hy, if_neg (by rintro (h | h); exact hx h; exact hy h), hzv]
      exact mrp_none p q n c m d w x y u1 u2 u3 u4 u5 v1 v2 v3 v4 v5 h1 h2 hxb hyb
end Go.Proofs.YtppmokkbepihhaaDoor
