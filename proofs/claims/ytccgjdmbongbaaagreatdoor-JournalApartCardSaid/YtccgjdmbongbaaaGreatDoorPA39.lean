import Derived.Test.YtccgjdmbongbaaaGreatDoorPA38
namespace Go.Proofs.YtccgjdmbongbaaaGreatDoor
open Go.RowKit Go.ChangeShapes Go.WideShapes
set_option linter.unusedVariables false
set_option linter.unusedSimpArgs false
set_option maxRecDepth 10000
variable {NB : Nat} {Wd : World → Prop} {Ju : World → Nat → List Tc → (Nat → Prop) → Prop}
def Jn (Ju : World → Nat → List Tc → (Nat → Prop) → Prop) (W w : World) (B : Nat) (M : List Tc) : Prop := ∃ Q, Ju w B M Q ∧ (∀ j, Q j → W.heap.size ≤ j) ∧ Below W.heap.size W w
theorem Jn.below {W w : World} {B : Nat} {M : List Tc} (h : Jn Ju W w B M) : Below W.heap.size W w := by
 obtain ⟨_, _, _, h3⟩ := h
 exact h3
theorem Jn.later (I : JnI NB Wd Ju) {W w w' : World} {B : Nat} {M : List Tc} (h : Jn Ju W w B M) (hb : Below w.heap.size w w') : Jn Ju W w' B M := by
 obtain ⟨Q, h1, h2, h3⟩ := h
 exact ⟨Q, I.later h1 hb, h2, h3.trans (hb.mono h3.size)⟩
theorem Jn.acted {W w w' : World} {B : Nat} {M : List Tc} {Q : Nat → Prop} (h2 : ∀ j, Q j → W.heap.size ≤ j) (h3 : Below W.heap.size W w) (h : JActed Ju w w' B M Q) : Jn Ju W w' B M := by
 obtain ⟨Q', g1, g2, g3⟩ := h
 refine ⟨Q', g1, fun j hj => ?_, h3.trans (g3.below h3.size h2)⟩
 rcases g2 j hj with e | e
 · exact h2 j e
 · exact Nat.le_trans h3.size e
theorem Jn.apply (I : JnI NB Wd Ju) {W w : World} {B : Nat} {M : List Tc} (hW : Wd W) (h : Jn Ju W w B M) (hM : JOk M) (at_ : Int) (ha : In64 at_) (r : Rv) (La : List Ln) (Ta : List Tk) (Ma : List Ln) (hr : RvM w r La Ta Ma) (hx : Rxok (r.x La Ta Ma)) (hs : SmV r) :
 Calls Tryz.prog 12 #[.pointer (some ⟨B, 0, none⟩), .int .i64 at_, .agg (rcs r)] w fun e w' => e = .returned (.int .i64 (appC M at_ (r.x La Ta Ma)).2) ∧ Jn Ju W w' B (appC M at_ (r.x La Ta Ma)).1 := by
 obtain ⟨Q, h1, h2, h3⟩ := h
 refine (I.apply w B M Q at_ r La Ta Ma (I.wd hW h3) h1 hM ha hr hx hs).mono ?_
 rintro e w' ⟨rfl, ha⟩
 exact ⟨rfl, Jn.acted h2 h3 ha⟩
theorem Jn.get (I : JnI NB Wd Ju) {W w : World} {B : Nat} {M : List Tc} (h : Jn Ju W w B M) (hM : JOk M) (i : Int) (hi : 0 ≤ i ∧ i ≤ 4294967295) :
 Calls Tryz.prog 16 #[.pointer (some ⟨B, 0, none⟩), .int .u32 i] w fun e w' => ∃ t : Tv, e = .returned (.tuple #[.agg #[.int .u32 t.c.id, .int .u32 t.c.sg, .int .u8 t.c.st, .bool t.c.cp, .bool t.c.dd, .slice t.p t.n t.m, .int .i64 t.c.fs, .int .i64 t.c.sz], .bool (getT Tc.id M i).isSome]) ∧ t.c = (getT Tc.id M i).getD tc0 ∧ TvM w' t ∧ Below w.heap.size w w' ∧ Jn Ju W w' B M := by
 obtain ⟨Q, h1, h2, h3⟩ := h
 refine (I.get w B M Q i h1 hM hi).mono ?_
 rintro e w' ⟨t, rfl, g1, g2, g3⟩
 exact ⟨t, rfl, g1, g2, g3, Q, I.later h1 g3, h2, h3.trans (g3.mono h3.size)⟩
def rvl (k sg tx : Int) (key : K) (d : Int) : Rv := ⟨k, sg, tx, 0, false, key.1, key.2.1, key.2.2, d, 0, 0, 0, 0, none, 0, 0, none, 0, 0, none, 0, 0, 0, 0, 0, 0⟩
theorem rvl_m (k sg tx : Int) (key : K) (d : Int) (w : World) : RvM w (rvl k sg tx key d) [] [] [] := ⟨SlG.empty _, SlG.empty _, SlG.empty _⟩
theorem rvl_s (k sg tx : Int) (key : K) (d : Int) : SmV (rvl k sg tx key d) := ⟨by simp [rvl], by simp [rvl], by simp [rvl]⟩
theorem rvl_ok {k sg tx : Int} {key : K} {d : Int} (h1 : 0 ≤ k ∧ k ≤ 255) (h2 : 0 ≤ sg ∧ sg ≤ 4294967295) (h3 : 0 ≤ tx ∧ tx ≤ 4294967295) (h4 : Kok key) (h5 : In64 d) : Rxok ((rvl k sg tx key d).x [] [] []) :=
 ⟨h1, h2, h3, ⟨Int.le_refl _, by show (0 : Int) ≤ 255; omega⟩, h4, h5, ⟨Int.le_refl _, by show (0 : Int) ≤ 255; omega⟩, (by
  have z : (0 : Int) ≤ 0 ∧ (0 : Int) ≤ 255 := ⟨by omega, by omega⟩
  exact ⟨z, ⟨by show (0 : Int) ≤ 0; omega, by show (0 : Int) ≤ 4294967295; omega⟩, z, (fun x hx => by cases hx), (fun x hx => by cases hx), (fun x hx => by cases hx), z, z, z, (by show -9223372036854775808 ≤ (0 : Int) ∧ (0 : Int) ≤ 9223372036854775807; omega)⟩)⟩
theorem jw_0 : appC [] 40 ((rvl 2 1 3 (0, 0, 0) (0)).x [] [] []) = ([⟨3, 1, 0, false, false, [], 40, 17⟩], 0) := by decide
theorem jw_1 : appC [⟨3, 1, 0, false, false, [], 40, 17⟩] 57 ((rvl 3 0 3 (3, 0, 0) (5)).x [] [] []) = ([⟨3, 1, 0, false, false, [((3, 0, 0), 5)], 40, 39⟩], 0) := by decide
theorem jw_2 : appC [⟨3, 1, 0, false, false, [((3, 0, 0), 5)], 40, 39⟩] 79 ((rvl 3 0 3 (3, 0, 0) (-2)).x [] [] []) = ([⟨3, 1, 0, false, false, [((3, 0, 0), 5), ((3, 0, 0), -2)], 40, 61⟩], 0) := by decide
theorem jw_3 : appC [⟨3, 1, 0, false, false, [((3, 0, 0), 5), ((3, 0, 0), -2)], 40, 61⟩] 101 ((rvl 7 0 3 (0, 0, 0) (0)).x [] [] []) = ([⟨3, 1, 0, false, false, [((3, 0, 0), 5), ((3, 0, 0), -2)], 40, 61⟩], 12) := by decide
theorem jw_4 : appC [⟨3, 1, 0, false, false, [((3, 0, 0), 5), ((3, 0, 0), -2)], 40, 61⟩] 101 ((rvl 6 0 3 (3, 0, 0) (2)).x [] [] []) = ([⟨3, 1, 0, false, true, [((3, 0, 0), 5)], 40, 83⟩], 0) := by decide
theorem jw_5 : appC [⟨3, 1, 0, false, true, [((3, 0, 0), 5)], 40, 83⟩] 123 ((rvl 3 0 3 (3, 0, 0) (1)).x [] [] []) = ([⟨3, 1, 0, false, true, [((3, 0, 0), 5)], 40, 83⟩], 12) := by decide
theorem jok_nil : TsOk [] 0 0 := ⟨(fun x hx => by cases hx), List.Pairwise.nil, by simp, (fun x hx => by cases hx), fun x hx => by cases hx⟩
theorem jwok_0 : TsOk [⟨3, 1, 0, false, false, [], 40, 17⟩] 1 10000 := by
 have h := TsOk.app (X := (rvl 2 1 3 (0, 0, 0) (0)).x [] [] []) (at_ := 40) jok_nil ⟨by omega, by omega⟩ (rvl_ok (by omega) (by omega) (by omega) ⟨by decide, by decide, by decide⟩ (by unfold In64; omega)) (by unfold In64; omega)
 rw [jw_0] at h
 exact h.mono (by omega) (by omega)
theorem jwok_1 : TsOk [⟨3, 1, 0, false, false, [((3, 0, 0), 5)], 40, 39⟩] 2 20000 := by
 have h := TsOk.app (X := (rvl 3 0 3 (3, 0, 0) (5)).x [] [] []) (at_ := 57) jwok_0 ⟨by omega, by omega⟩ (rvl_ok (by omega) (by omega) (by omega) ⟨by decide, by decide, by decide⟩ (by unfold In64; omega)) (by unfold In64; omega)
 rw [jw_1] at h
 exact h.mono (by omega) (by omega)
theorem jwok_2 : TsOk [⟨3, 1, 0, false, false, [((3, 0, 0), 5), ((3, 0, 0), -2)], 40, 61⟩] 3 30000 := by
 have h := TsOk.app (X := (rvl 3 0 3 (3, 0, 0) (-2)).x [] [] []) (at_ := 79) jwok_1 ⟨by omega, by omega⟩ (rvl_ok (by omega) (by omega) (by omega) ⟨by decide, by decide, by decide⟩ (by unfold In64; omega)) (by unfold In64; omega)
 rw [jw_2] at h
 exact h.mono (by omega) (by omega)
theorem jwok_3 : TsOk [⟨3, 1, 0, false, false, [((3, 0, 0), 5), ((3, 0, 0), -2)], 40, 61⟩] 4 40000 := by
 have h := TsOk.app (X := (rvl 7 0 3 (0, 0, 0) (0)).x [] [] []) (at_ := 101) jwok_2 ⟨by omega, by omega⟩ (rvl_ok (by omega) (by omega) (by omega) ⟨by decide, by decide, by decide⟩ (by unfold In64; omega)) (by unfold In64; omega)
 rw [jw_3] at h
 exact h.mono (by omega) (by omega)
theorem jwok_4 : TsOk [⟨3, 1, 0, false, true, [((3, 0, 0), 5)], 40, 83⟩] 5 50000 := by
 have h := TsOk.app (X := (rvl 6 0 3 (3, 0, 0) (2)).x [] [] []) (at_ := 101) jwok_3 ⟨by omega, by omega⟩ (rvl_ok (by omega) (by omega) (by omega) ⟨by decide, by decide, by decide⟩ (by unfold In64; omega)) (by unfold In64; omega)
 rw [jw_4] at h
 exact h.mono (by omega) (by omega)
theorem jwok_5 : TsOk [⟨3, 1, 0, false, true, [((3, 0, 0), 5)], 40, 83⟩] 6 60000 := by
 have h := TsOk.app (X := (rvl 3 0 3 (3, 0, 0) (1)).x [] [] []) (at_ := 123) jwok_4 ⟨by omega, by omega⟩ (rvl_ok (by omega) (by omega) (by omega) ⟨by decide, by decide, by decide⟩ (by unfold In64; omega)) (by unfold In64; omega)
 rw [jw_5] at h
 exact h.mono (by omega) (by omega)
variable {NB : Nat} {Wd : World → Prop} {Ju : World → Nat → List Tc → (Nat → Prop) → Prop}
set_option maxHeartbeats 8000000 in
theorem jworks_any (I : JnI NB Wd Ju) (W : World) (hW : Wd W) : Calls Tryz.prog 8 #[] W fun e w' => e = .returned (.bool true) ∧ Below W.heap.size W w' := by
 have HI := Lib.hid I
 have hb0 : Below W.heap.size W (W.alloc (.cells #[.int .u8 3, .int .u8 0, .int .u8 0] 34)) := (Below.refl _ _).alloc (Nat.le_refl _) _
 have HB0 := Lib.hid hb0
 have HW := Lib.hid (I.wd hW hb0)
 have HK0 := Lib.hid (alloc_block W (.cells #[.int .u8 3, .int .u8 0, .int .u8 0] 34))
 have HNEW := Lib.hid fun w => I.new none 0 0 [] w (TL.empty w) (by omega) (fun t ht => by cases ht) (fun t ht => by cases ht)
 obtain ⟨X, hX⟩ : ∃ X, W.heap.size = X := ⟨_, rfl⟩
 have HHX := Lib.hid hX
 rw [hX] at HK0
 clear hb0 I hW
 go_enter Tryz.func8, Tryz.ntmps8
 go_upto_region 2 with (fail)
 clear hX
 generalize W.alloc (.cells #[.int .u8 3, .int .u8 0, .int .u8 0] 34) = V0 at *
 go_wp2_with fail
 refine (HNEW.out _).mono ?_
 rintro e0 w0 ⟨B, Q, rfl, hj, hq, hb⟩
 have HJ0 : Hid (Jn Ju V0 w0 B []) := Lib.hid ⟨Q, hj, hq, hb⟩
 clear hj hq hb HNEW
 obtain ⟨x0, x1, x2⟩ : w0.cell? ⟨X, 0, none⟩ = some (.int .u8 3) ∧ w0.cell? ⟨X, 1, none⟩ = some (.int .u8 0) ∧ w0.cell? ⟨X, 2, none⟩ = some (.int .u8 0) := ⟨block_cell (block_later HK0.out HJ0.out.below) rfl, block_cell (block_later HK0.out HJ0.out.below) rfl, block_cell (block_later HK0.out HJ0.out.below) rfl⟩
 have HC0 := Lib.hid (Jn.apply HI.out HW.out HJ0.out (jok_nil.mono (by omega) (by omega)) 40 (by unfold In64; omega) (rvl 2 1 3 (0, 0, 0) (0)) [] [] [] (rvl_m ..) (rvl_ok (by omega) (by omega) (by omega) ⟨by decide, by decide, by decide⟩ (by unfold In64; omega)) (rvl_s ..))
 rw [jw_0] at HC0
 go_wp2_with fail
 clear x0 x1 x2
 refine HC0.out.mono ?_
 rintro e1 w1 ⟨rfl, hj⟩
 have HJ1 := Lib.hid hj
 clear hj HC0
 obtain ⟨x0, x1, x2⟩ : w1.cell? ⟨X, 0, none⟩ = some (.int .u8 3) ∧ w1.cell? ⟨X, 1, none⟩ = some (.int .u8 0) ∧ w1.cell? ⟨X, 2, none⟩ = some (.int .u8 0) := ⟨block_cell (block_later HK0.out HJ1.out.below) rfl, block_cell (block_later HK0.out HJ1.out.below) rfl, block_cell (block_later HK0.out HJ1.out.below) rfl⟩
 have HC1 := Lib.hid (Jn.apply HI.out HW.out HJ1.out (jwok_0.mono (by omega) (by omega)) 57 (by unfold In64; omega) (rvl 3 0 3 (3, 0, 0) (5)) [] [] [] (rvl_m ..) (rvl_ok (by omega) (by omega) (by omega) ⟨by decide, by decide, by decide⟩ (by unfold In64; omega)) (rvl_s ..))
 rw [jw_1] at HC1
 go_wp2_with fail
 clear x0 x1 x2
 refine HC1.out.mono ?_
 rintro e2 w2 ⟨rfl, hj⟩
 have HJ2 := Lib.hid hj
 clear hj HC1
 obtain ⟨x0, x1, x2⟩ : w2.cell? ⟨X, 0, none⟩ = some (.int .u8 3) ∧ w2.cell? ⟨X, 1, none⟩ = some (.int .u8 0) ∧ w2.cell? ⟨X, 2, none⟩ = some (.int .u8 0) := ⟨block_cell (block_later HK0.out HJ2.out.below) rfl, block_cell (block_later HK0.out HJ2.out.below) rfl, block_cell (block_later HK0.out HJ2.out.below) rfl⟩
 have HC2 := Lib.hid (Jn.apply HI.out HW.out HJ2.out (jwok_1.mono (by omega) (by omega)) 79 (by unfold In64; omega) (rvl 3 0 3 (3, 0, 0) (-2)) [] [] [] (rvl_m ..) (rvl_ok (by omega) (by omega) (by omega) ⟨by decide, by decide, by decide⟩ (by unfold In64; omega)) (rvl_s ..))
 rw [jw_2] at HC2
 go_wp2_with fail
 clear x0 x1 x2
 refine HC2.out.mono ?_
 rintro e3 w3 ⟨rfl, hj⟩
 have HJ3 := Lib.hid hj
 clear hj HC2
 obtain ⟨x0, x1, x2⟩ : w3.cell? ⟨X, 0, none⟩ = some (.int .u8 3) ∧ w3.cell? ⟨X, 1, none⟩ = some (.int .u8 0) ∧ w3.cell? ⟨X, 2, none⟩ = some (.int .u8 0) := ⟨block_cell (block_later HK0.out HJ3.out.below) rfl, block_cell (block_later HK0.out HJ3.out.below) rfl, block_cell (block_later HK0.out HJ3.out.below) rfl⟩
 have HC3 := Lib.hid (Jn.apply HI.out HW.out HJ3.out (jwok_2.mono (by omega) (by omega)) 101 (by unfold In64; omega) (rvl 7 0 3 (0, 0, 0) (0)) [] [] [] (rvl_m ..) (rvl_ok (by omega) (by omega) (by omega) ⟨by decide, by decide, by decide⟩ (by unfold In64; omega)) (rvl_s ..))
 rw [jw_3] at HC3
 go_wp2_with fail
 clear x0 x1 x2
 refine HC3.out.mono ?_
 rintro e4 w4 ⟨rfl, hj⟩
 have HJ4 := Lib.hid hj
 clear hj HC3
 obtain ⟨x0, x1, x2⟩ : w4.cell? ⟨X, 0, none⟩ = some (.int .u8 3) ∧ w4.cell? ⟨X, 1, none⟩ = some (.int .u8 0) ∧ w4.cell? ⟨X, 2, none⟩ = some (.int .u8 0) := ⟨block_cell (block_later HK0.out HJ4.out.below) rfl, block_cell (block_later HK0.out HJ4.out.below) rfl, block_cell (block_later HK0.out HJ4.out.below) rfl⟩
 have HC4 := Lib.hid (Jn.apply HI.out HW.out HJ4.out (jwok_3.mono (by omega) (by omega)) 101 (by unfold In64; omega) (rvl 6 0 3 (3, 0, 0) (2)) [] [] [] (rvl_m ..) (rvl_ok (by omega) (by omega) (by omega) ⟨by decide, by decide, by decide⟩ (by unfold In64; omega)) (rvl_s ..))
 rw [jw_4] at HC4
 go_wp2_with fail
 clear x0 x1 x2
 refine HC4.out.mono ?_
 rintro e5 w5 ⟨rfl, hj⟩
 have HJ5 := Lib.hid hj
 clear hj HC4
 obtain ⟨x0, x1, x2⟩ : w5.cell? ⟨X, 0, none⟩ = some (.int .u8 3) ∧ w5.cell? ⟨X, 1, none⟩ = some (.int .u8 0) ∧ w5.cell? ⟨X, 2, none⟩ = some (.int .u8 0) := ⟨block_cell (block_later HK0.out HJ5.out.below) rfl, block_cell (block_later HK0.out HJ5.out.below) rfl, block_cell (block_later HK0.out HJ5.out.below) rfl⟩
 have HC5 := Lib.hid (Jn.apply HI.out HW.out HJ5.out (jwok_4.mono (by omega) (by omega)) 123 (by unfold In64; omega) (rvl 3 0 3 (3, 0, 0) (1)) [] [] [] (rvl_m ..) (rvl_ok (by omega) (by omega) (by omega) ⟨by decide, by decide, by decide⟩ (by unfold In64; omega)) (rvl_s ..))
 rw [jw_5] at HC5
 go_wp2_with fail
 clear x0 x1 x2
 refine HC5.out.mono ?_
 rintro e6 w6 ⟨rfl, hj⟩
 have HJ6 := Lib.hid hj
 clear hj HC5
 go_wp2_with fail
 refine (Jn.get HI.out HJ6.out (jwok_5.mono (by omega) (by omega)) 3 (by omega)).mono ?_
 rintro e7 w7 ⟨t, rfl, htc, htm, hb, hj⟩
 have ht2 : t.c = ⟨3, 1, 0, false, true, [((3, 0, 0), 5)], 40, 83⟩ := htc
 have htn : t.n = 1 := by rw [← htm.len, ht2]; rfl
 obtain ⟨c, p, n, m⟩ := t
 simp only at ht2 htn
 subst ht2 htn
 have HB7 := Lib.hid (HB0.out.trans (hj.below.mono HB0.out.size))
 have HTB := Lib.hid (alloc_block w7 (.cells #[.int .u32 3, .int .u32 1, .int .u8 0, .bool false, .bool true, .slice p 1 m, .int .i64 40, .int .i64 83] 47))
 have HB8 := Lib.hid (HB7.out.alloc HB7.out.size (.cells #[.int .u32 3, .int .u32 1, .int .u8 0, .bool false, .bool true, .slice p 1 m, .int .i64 40, .int .i64 83] 47))
 clear htc htm hb hj
 go_upto_region 10 with (fail)
 generalize w7.alloc (.cells #[.int .u32 3, .int .u32 1, .int .u8 0, .bool false, .bool true, .slice p 1 m, .int .i64 40, .int .i64 83] 47) = w8 at *
 generalize w7.heap.size = TB at *
 obtain ⟨y0, y1, y2, y3, y4, y5, y6, y7⟩ := txv_cells HTB.out
 go_wp2_with fail
 go_ret
 exact ⟨rfl, HB8.out⟩
theorem cellb {W w : World} {a : Addr} {v : Value} (hb : Below W.heap.size W w) (h : W.cell? a = some v) : w.cell? a = some v := (hb.cell (World.block_lt_of_cell? _ _ h)).trans h
theorem map_at {L : List Tv} {j : Nat} (hj : j < L.length) : (L.map (·.c)).getD j tc0 = (L.getD j tv0).c := by
 simp [List.getD, List.getElem?_map, List.getElem?_eq_getElem hj]
theorem OL.later' {w w' : World} {p : Option Addr} {n c : Nat} {L : List O} (h : OL w p n c L) (hb : Below w.heap.size w w') : OL w' p n c L := h.later hb
variable {NB : Nat} {Wd : World → Prop} {Ju : World → Nat → List Tc → (Nat → Prop) → Prop}
set_option maxHeartbeats 8000000 in
theorem jsame_any (I : JnI NB Wd Ju) (I2 : JnI2 NB Ju) (I5 : JnI5 NB Ju) (w : World) (B : Nat) (M : List Tc) (Q : Nat → Prop) (p : Option Addr) (n c : Nat) (L : List Tv) (h : Ju w B M Q) (hM : JOk M) (hNB : M.length ≤ NB) (hL : TL w p n c L) (hm : L.map (·.c) = M) (hfew : ∀ t ∈ L, t.n ≤ 100) :
 Calls Tryz.prog 13 #[.pointer (some ⟨B, 0, none⟩), .slice p n c] w fun e w' => e = .returned (.bool true) ∧ Below w.heap.size w w' := by
 have HI := Lib.hid I
 have HJ := Lib.hid fun w' (hb : Below w.heap.size w w') => I.later h hb
 have HL := Lib.hid fun w' (hb : Below w.heap.size w w') => hL.later hb
 have hln : L.length = n := hL.row.len
 have hMn : M.length = n := by rw [← hm, List.length_map, hln]
 have HN := Lib.hid (show n ≤ 200 by rw [← hMn]; exact hM.len)
 have HFIRST := Lib.hid fun w' (hb : Below w.heap.size w w') => I5.first w' B M Q (I.later h hb) hM
 have HRF := Lib.hid fun w' (hb : Below w.heap.size w w') => rtfirst_any p n c L w' (hL.row.later hb) (by have := HN.out; omega)
 rw [hm] at HRF
 have HAT := Lib.hid fun j (hj : j < n) => (show (L.getD j tv0).c ∈ M ∧ (L.getD j tv0).n ≤ 100 ∧ M.getD j tc0 = (L.getD j tv0).c by
  have hx := hL.mem hj
  refine ⟨?_, hfew _ hx, ?_⟩
  · rw [← hm]; exact List.mem_map_of_mem hx
  · rw [← hm]; exact map_at (by rw [hln]; exact hj))
 have HGET := Lib.hid fun (x : Tc) (hx : x ∈ M) w' (hb : Below w.heap.size w w') => (show Calls Tryz.prog 16 #[.pointer (some ⟨B, 0, none⟩), .int .u32 x.id] w' fun e w'' => ∃ t : Tv, e = .returned (.tuple #[.agg #[.int .u32 t.c.id, .int .u32 t.c.sg, .int .u8 t.c.st, .bool t.c.cp, .bool t.c.dd, .slice t.p t.n t.m, .int .i64 t.c.fs, .int .i64 t.c.sz], .bool true]) ∧ t.c = x ∧ TvM w'' t ∧ Below w'.heap.size w' w'' by
  have h1 := I.get w' B M Q x.id (I.later h hb) hM (hM.ok x hx).id
  rw [getT_at hM.up hx] at h1
  exact h1)
 have HSOME := Lib.hid fun (x : Tc) (hx : x ∈ M) => (show ∃ y v, getT Tc.sg M x.sg = some y ∧ y ∈ M ∧ getT Tv.sg L x.sg = some v ∧ v.c = y ∧ v ∈ L by
  have hs : (getT Tv.sg L x.sg).isSome = true := by
   obtain ⟨t, ht, e⟩ := List.mem_map.1 (show x ∈ L.map (·.c) by rw [hm]; exact hx)
   unfold getT
   rw [List.find?_isSome]
   exact ⟨t, ht, by simp [Tv.sg, ← e]⟩
  obtain ⟨v, hv⟩ := Option.isSome_iff_exists.1 hs
  obtain ⟨hvm, _⟩ := getT_mem hv
  have h2 := map_getT (ix := Tv.sg) (jx := Tc.sg) (f := (·.c)) (fun _ => rfl) x.sg L
  rw [hv, hm] at h2
  exact ⟨v.c, v, h2.symm, by rw [← hm]; exact List.mem_map_of_mem hvm, hv, rfl, hvm⟩)
 have HOF := Lib.hid fun (x y : Tc) (hx : x ∈ M) (hy : getT Tc.sg M x.sg = some y) w' (hb : Below w.heap.size w w') => (show Calls Tryz.prog 17 #[.pointer (some ⟨B, 0, none⟩), .int .u32 x.sg] w' fun e w'' => ∃ t : Tv, e = .returned (.tuple #[.agg #[.int .u32 t.c.id, .int .u32 t.c.sg, .int .u8 t.c.st, .bool t.c.cp, .bool t.c.dd, .slice t.p t.n t.m, .int .i64 t.c.fs, .int .i64 t.c.sz], .bool true]) ∧ t.c = y ∧ TvM w'' t ∧ Below w'.heap.size w' w'' by
  have h1 := I2.of_ w' B M Q x.sg (I.later h hb) hM (hM.ok x hx).sg
  rw [hy] at h1
  exact h1)
 have HRO := Lib.hid fun (v : Tv) (i : Int) (hv : getT Tv.sg L i = some v) w' (hb : Below w.heap.size w w') => (show Calls Tryz.prog 26 #[.slice p n c, .int .u32 i] w' fun e w'' => e = .returned (.tuple #[.agg #[.int .u32 v.c.id, .int .u32 v.c.sg, .int .u8 v.c.st, .bool v.c.cp, .bool v.c.dd, .slice v.p v.n v.m, .int .i64 v.c.fs, .int .i64 v.c.sz], .bool true]) ∧ Below w'.heap.size w' w'' by
  have h1 := rtOf_any p n c L i w' (hL.row.later hb) (by have := HN.out; omega)
  rw [hv] at h1
  exact h1)
 have HEACH := Lib.hid fun (v : Tv) (hv : v ∈ L) w' (hb : Below w.heap.size w w') => (And.intro ((hL.each v hv).later hb) (hfew v hv))
 have HMF := Lib.hid fun (x : Tc) (hx : x ∈ M) => hM.few x hx
 have hcap := hL.row.cap
 have hal := I.all w B M Q h hM hNB
 have HAL := Lib.hid (show Calls Tryz.prog 14 #[.pointer (some ⟨B, 0, none⟩)] w fun e w' => ∃ r d LA, e = .returned (.slice r n d) ∧ TL w' r n d LA ∧ LA.map (·.c) = M ∧ Below w.heap.size w w' from hal.mono (by
  rintro e w' ⟨r, m, d, LA, rfl, h1, h2, _, h3⟩
  have hmn : m = n := by rw [← h1.row.len, ← hMn, ← h2, List.length_map]
  subst hmn
  exact ⟨r, d, LA, rfl, h1, h2, h3⟩))
 obtain ⟨⟨z, zb⟩, hz⟩ : ∃ z, firstC M = z := ⟨_, rfl⟩
 rw [hz] at HFIRST HRF
 dsimp only at HFIRST HRF
 have q0 : ((n : Int) != (n : Int)) = false := by simp
 have q1 : (z != z) = false := by simp
 have q2 : (zb != zb) = false := by simp
 clear h hM hL hm hfew hln hMn hal hz I I2 I5
 go_enter Tryz.func13, Tryz.ntmps13
 go_wp2_with fail
 refine HAL.out.mono ?_
 rintro e1 w1 ⟨r, d, LA, rfl, hta, hma, hb1⟩
 have HTA := Lib.hid hta
 have HMA := Lib.hid hma
 have HB1 := Lib.hid hb1
 have hrc := hta.row.cap
 clear hta hma hb1 HAL
 go_wp2_with fail
 refine (HFIRST.out _ HB1.out).mono ?_
 rintro e2 w2 ⟨rfl, hb2⟩
 have HTA2 := Lib.hid (HTA.out.later hb2)
 have HB2 := Lib.hid (HB1.out.trans (hb2.mono HB1.out.size))
 clear hb2 HTA HB1 HFIRST
 go_wp2_with fail
 refine (HRF.out _ HB2.out).mono ?_
 rintro e3 w3 ⟨rfl, hb3⟩
 have HTA3 := Lib.hid (HTA2.out.later hb3)
 have HB3 := Lib.hid (HB2.out.trans (hb3.mono HB2.out.size))
 clear hb3 HTA2 HB2 HRF
 go_wp2_with fail
 go_loopw [10] (fun i wr => ∃ j : Nat, j ≤ n ∧ i = .int .i64 (j : Int) ∧ Hid (Below w3.heap.size w3 wr)) (fun i _ => n - (Go.RowKit.intOf i).toNat)
 case atStart => exact ⟨0, Nat.zero_le _, rfl, Lib.hid (Below.refl _ _)⟩
 case round =>
  obtain ⟨j, hj, rfl, HB⟩ := hrel
  have HBW := Lib.hid (HB3.out.trans (HB.out.mono HB3.out.size))
  by_cases hlt : j < n
  · have t1 : (j : Int) < n := by omega
    have hmx : (n : Int) ≤ 200 := by have := HN.out; omega
    have HLW := Lib.hid (HL.out _ HBW.out)
    obtain ⟨b, off, rfl, _, c0, c1, c2, c3, c4, c5, c6, c7⟩ := txr_cells HLW.out.row hlt
    have HTAW := Lib.hid (HTA3.out.later HB.out)
    obtain ⟨ab, aoff, rfl, _, d0, d1, d2, d3, d4, d5, d6, d7⟩ := txr_cells HTAW.out.row hlt
    obtain ⟨hxM, hxn, hxe⟩ := HAT.out j hlt
    have HXM : Hid (TvM wr (L.getD j tv0)) := Lib.hid (HLW.out.at hlt)
    have HYM : Hid (TvM wr (LA.getD j tv0)) := Lib.hid (HTAW.out.at hlt)
    have HYX : Hid ((LA.getD j tv0).c = (L.getD j tv0).c) := Lib.hid (by
     rw [← hxe, ← HMA.out]
     exact (map_at (by rw [HTAW.out.row.len]; exact hlt)).symm)
    generalize L.getD j tv0 = x at *
    generalize LA.getD j tv0 = y at *
    have HXX := Lib.hid (And.intro hxM (And.intro hxn hxe))
    have HYN : Hid (y.n ≤ 100) := Lib.hid (by
     have h1 := HMF.out x.c hxM
     have h2 := HYM.out.len
     rw [HYX.out] at h2
     omega)
    obtain ⟨s, v, hs, hsM, hv, hvc, hvL⟩ := HSOME.out x.c hxM
    have HS := Lib.hid (And.intro hs (And.intro hsM (And.intro hv (And.intro hvc hvL))))
    have C0 := Lib.hid c0
    have D0 := Lib.hid d0
    have C1 := Lib.hid c1
    have D1 := Lib.hid d1
    have C2 := Lib.hid c2
    have D2 := Lib.hid d2
    have C3 := Lib.hid c3
    have D3 := Lib.hid d3
    have C4 := Lib.hid c4
    have D4 := Lib.hid d4
    have C5 := Lib.hid c5
    have D5 := Lib.hid d5
    have C6 := Lib.hid c6
    have D6 := Lib.hid d6
    have C7 := Lib.hid c7
    have D7 := Lib.hid d7
    clear hxM hxn hxe hs hsM hv hvc hvL
    go_wp2_with fail
    clear c0 c1 c2 c3 c4 c5 c6 c7 d0 d1 d2 d3 d4 d5 d6 d7
    refine (HGET.out x.c HXX.out.1 _ HBW.out).mono ?_
    rintro e4 w4 ⟨t, rfl, htc, htm, hb4⟩
    have hbn : Below w4.heap.size w4 (w4.alloc (.cells #[.int .u32 t.c.id, .int .u32 t.c.sg, .int .u8 t.c.st, .bool t.c.cp, .bool t.c.dd, .slice t.p t.n t.m, .int .i64 t.c.fs, .int .i64 t.c.sz] 47)) := (Below.refl _ _).alloc (Nat.le_refl _) _
    have HTB := Lib.hid (alloc_block w4 (.cells #[.int .u32 t.c.id, .int .u32 t.c.sg, .int .u8 t.c.st, .bool t.c.cp, .bool t.c.dd, .slice t.p t.n t.m, .int .i64 t.c.fs, .int .i64 t.c.sz] 47))
    have HTC := Lib.hid htc
    have HTM := Lib.hid (OL.later' htm hbn)
    have HB4 := Lib.hid (hb4.trans (hbn.mono hb4.size))
    have HBW4 := Lib.hid (HBW.out.trans (HB4.out.mono HBW.out.size))
    clear hb4 hbn htc htm
    go_upto_region 10 with (fail)
    generalize w4.alloc (.cells #[.int .u32 t.c.id, .int .u32 t.c.sg, .int .u8 t.c.st, .bool t.c.cp, .bool t.c.dd, .slice t.p t.n t.m, .int .i64 t.c.fs, .int .i64 t.c.sz] 47) = W4 at *
    generalize w4.heap.size = TB at *
    have c0 := cellb HB4.out C0.out
    have c1 := cellb HB4.out C1.out
    have c2 := cellb HB4.out C2.out
    have c3 := cellb HB4.out C3.out
    have c4 := cellb HB4.out C4.out
    have c5 := cellb HB4.out C5.out
    have c6 := cellb HB4.out C6.out
    have c7 := cellb HB4.out C7.out
    go_wp2_with fail
    clear c0 c1 c2 c3 c4 c5 c6 c7
    refine (HOF.out x.c s HXX.out.1 HS.out.1 _ HBW4.out).mono ?_
    rintro e5 w5 ⟨u, rfl, huc, hum, hb5⟩
    have hbn : Below w5.heap.size w5 (w5.alloc (.cells #[.int .u32 u.c.id, .int .u32 u.c.sg, .int .u8 u.c.st, .bool u.c.cp, .bool u.c.dd, .slice u.p u.n u.m, .int .i64 u.c.fs, .int .i64 u.c.sz] 47)) := (Below.refl _ _).alloc (Nat.le_refl _) _
    have HUB := Lib.hid (alloc_block w5 (.cells #[.int .u32 u.c.id, .int .u32 u.c.sg, .int .u8 u.c.st, .bool u.c.cp, .bool u.c.dd, .slice u.p u.n u.m, .int .i64 u.c.fs, .int .i64 u.c.sz] 47))
    have HUC := Lib.hid huc
    have HUM := Lib.hid (OL.later' hum hbn)
    have HB45 := Lib.hid (hb5.trans (hbn.mono hb5.size))
    have HB5 := Lib.hid (HB4.out.trans (HB45.out.mono HB4.out.size))
    have HTB5 := Lib.hid (block_later HTB.out HB45.out)
    have HTM5 := Lib.hid (OL.later' HTM.out HB45.out)
    have HBW5 := Lib.hid (HBW.out.trans (HB5.out.mono HBW.out.size))
    clear hb5 hbn huc hum HTB HTM HB4 HB45 HBW4
    go_upto_region 11 with (fail)
    generalize w5.alloc (.cells #[.int .u32 u.c.id, .int .u32 u.c.sg, .int .u8 u.c.st, .bool u.c.cp, .bool u.c.dd, .slice u.p u.n u.m, .int .i64 u.c.fs, .int .i64 u.c.sz] 47) = W5 at *
    generalize w5.heap.size = UB at *
    have c0 := cellb HB5.out C0.out
    have c1 := cellb HB5.out C1.out
    have c2 := cellb HB5.out C2.out
    have c3 := cellb HB5.out C3.out
    have c4 := cellb HB5.out C4.out
    have c5 := cellb HB5.out C5.out
    have c6 := cellb HB5.out C6.out
    have c7 := cellb HB5.out C7.out
    go_wp2_with fail
    clear c0 c1 c2 c3 c4 c5 c6 c7
    refine (HRO.out v x.c.sg HS.out.2.2.1 _ HBW5.out).mono ?_
    rintro e6 w6 ⟨rfl, hb6⟩
    have hbn : Below w6.heap.size w6 (w6.alloc (.cells #[.int .u32 v.c.id, .int .u32 v.c.sg, .int .u8 v.c.st, .bool v.c.cp, .bool v.c.dd, .slice v.p v.n v.m, .int .i64 v.c.fs, .int .i64 v.c.sz] 47)) := (Below.refl _ _).alloc (Nat.le_refl _) _
    have HVB := Lib.hid (alloc_block w6 (.cells #[.int .u32 v.c.id, .int .u32 v.c.sg, .int .u8 v.c.st, .bool v.c.cp, .bool v.c.dd, .slice v.p v.n v.m, .int .i64 v.c.fs, .int .i64 v.c.sz] 47))
    have HB56 := Lib.hid (hb6.trans (hbn.mono hb6.size))
    have HB6 := Lib.hid (HB5.out.trans (HB56.out.mono HB5.out.size))
    have HTB6 := Lib.hid (block_later HTB5.out HB56.out)
    have HTM6 := Lib.hid (OL.later' HTM5.out HB56.out)
    have HUB6 := Lib.hid (block_later HUB.out HB56.out)
    have HUM6 := Lib.hid (OL.later' HUM.out HB56.out)
    have HBW6 := Lib.hid (HBW.out.trans (HB6.out.mono HBW.out.size))
    clear hb6 hbn HTB5 HTM5 HUB HUM HB5 HB56 HBW5
    go_upto_region 12 with (fail)
    generalize w6.alloc (.cells #[.int .u32 v.c.id, .int .u32 v.c.sg, .int .u8 v.c.st, .bool v.c.cp, .bool v.c.dd, .slice v.p v.n v.m, .int .i64 v.c.fs, .int .i64 v.c.sz] 47) = W6 at *
    generalize w6.heap.size = VB at *
    have HS1 : Hid (∀ p : After W6, Calls Tryz.prog 36 #[.agg #[.int .u32 y.c.id, .int .u32 y.c.sg, .int .u8 y.c.st, .bool y.c.cp, .bool y.c.dd, .slice y.p y.n y.m, .int .i64 y.c.fs, .int .i64 y.c.sz], .agg #[.int .u32 x.c.id, .int .u32 x.c.sg, .int .u8 x.c.st, .bool x.c.cp, .bool x.c.dd, .slice x.p x.n x.m, .int .i64 x.c.fs, .int .i64 x.c.sz]] p.w fun e w' => e = .returned (.bool true) ∧ Below p.w.heap.size p.w w') := Lib.hid fun p => by
     have h1 := rtsame_any y x p.w (OL.later' (OL.later' HYM.out HB6.out) p.h) (OL.later' (OL.later' HXM.out HB6.out) p.h) (by have := HYN.out; omega) (by have := HXX.out.2.1; omega)
     rw [decide_eq_true HYX.out] at h1
     exact h1
    have HS2 : Hid (∀ p : After W6, Calls Tryz.prog 36 #[.agg #[.int .u32 t.c.id, .int .u32 t.c.sg, .int .u8 t.c.st, .bool t.c.cp, .bool t.c.dd, .slice t.p t.n t.m, .int .i64 t.c.fs, .int .i64 t.c.sz], .agg #[.int .u32 x.c.id, .int .u32 x.c.sg, .int .u8 x.c.st, .bool x.c.cp, .bool x.c.dd, .slice x.p x.n x.m, .int .i64 x.c.fs, .int .i64 x.c.sz]] p.w fun e w' => e = .returned (.bool true) ∧ Below p.w.heap.size p.w w') := Lib.hid fun p => by
     have hn1 : t.n ≤ 20 := by rw [← HTM6.out.len, HTC.out]; exact HMF.out _ HXX.out.1
     have h1 := rtsame_any t x p.w (OL.later' HTM6.out p.h) (OL.later' (OL.later' HXM.out HB6.out) p.h) (by omega) (by have := HXX.out.2.1; omega)
     rw [decide_eq_true HTC.out] at h1
     exact h1
    have HS3 : Hid (∀ p : After W6, Calls Tryz.prog 36 #[.agg #[.int .u32 u.c.id, .int .u32 u.c.sg, .int .u8 u.c.st, .bool u.c.cp, .bool u.c.dd, .slice u.p u.n u.m, .int .i64 u.c.fs, .int .i64 u.c.sz], .agg #[.int .u32 v.c.id, .int .u32 v.c.sg, .int .u8 v.c.st, .bool v.c.cp, .bool v.c.dd, .slice v.p v.n v.m, .int .i64 v.c.fs, .int .i64 v.c.sz]] p.w fun e w' => e = .returned (.bool true) ∧ Below p.w.heap.size p.w w') := Lib.hid fun p => by
     have hn1 : u.n ≤ 20 := by rw [← HUM6.out.len, HUC.out]; exact HMF.out _ HS.out.2.1
     obtain ⟨hv1, hv2⟩ := HEACH.out v HS.out.2.2.2.2 _ HBW6.out
     have h1 := rtsame_any u v p.w (OL.later' HUM6.out p.h) (OL.later' hv1 p.h) (by omega) (by omega)
     rw [decide_eq_true (HUC.out.trans HS.out.2.2.2.1.symm)] at h1
     exact h1
    have c0 := cellb HB6.out C0.out
    have c1 := cellb HB6.out C1.out
    have c2 := cellb HB6.out C2.out
    have c3 := cellb HB6.out C3.out
    have c4 := cellb HB6.out C4.out
    have c5 := cellb HB6.out C5.out
    have c6 := cellb HB6.out C6.out
    have c7 := cellb HB6.out C7.out
    have d0 := cellb HB6.out D0.out
    have d1 := cellb HB6.out D1.out
    have d2 := cellb HB6.out D2.out
    have d3 := cellb HB6.out D3.out
    have d4 := cellb HB6.out D4.out
    have d5 := cellb HB6.out D5.out
    have d6 := cellb HB6.out D6.out
    have d7 := cellb HB6.out D7.out
    obtain ⟨tx0, tx1, tx2, tx3, tx4, tx5, tx6, tx7⟩ := txv_cells HTB6.out
    obtain ⟨ux0, ux1, ux2, ux3, ux4, ux5, ux6, ux7⟩ := txv_cells HUB6.out
    obtain ⟨vx0, vx1, vx2, vx3, vx4, vx5, vx6, vx7⟩ := txv_cells HVB.out
    have ac0 := fun p : After _ => cell_after p c0
    have ac1 := fun p : After _ => cell_after p c1
    have ac2 := fun p : After _ => cell_after p c2
    have ac3 := fun p : After _ => cell_after p c3
    have ac4 := fun p : After _ => cell_after p c4
    have ac5 := fun p : After _ => cell_after p c5
    have ac6 := fun p : After _ => cell_after p c6
    have ac7 := fun p : After _ => cell_after p c7
    have ad0 := fun p : After _ => cell_after p d0
    have ad1 := fun p : After _ => cell_after p d1
    have ad2 := fun p : After _ => cell_after p d2
    have ad3 := fun p : After _ => cell_after p d3
    have ad4 := fun p : After _ => cell_after p d4
    have ad5 := fun p : After _ => cell_after p d5
    have ad6 := fun p : After _ => cell_after p d6
    have ad7 := fun p : After _ => cell_after p d7
    have atx0 := fun p : After _ => cell_after p tx0
    have atx1 := fun p : After _ => cell_after p tx1
    have atx2 := fun p : After _ => cell_after p tx2
    have atx3 := fun p : After _ => cell_after p tx3
    have atx4 := fun p : After _ => cell_after p tx4
    have atx5 := fun p : After _ => cell_after p tx5
    have atx6 := fun p : After _ => cell_after p tx6
    have atx7 := fun p : After _ => cell_after p tx7
    have aux0 := fun p : After _ => cell_after p ux0
    have aux1 := fun p : After _ => cell_after p ux1
    have aux2 := fun p : After _ => cell_after p ux2
    have aux3 := fun p : After _ => cell_after p ux3
    have aux4 := fun p : After _ => cell_after p ux4
    have aux5 := fun p : After _ => cell_after p ux5
    have aux6 := fun p : After _ => cell_after p ux6
    have aux7 := fun p : After _ => cell_after p ux7
    have avx0 := fun p : After _ => cell_after p vx0
    have avx1 := fun p : After _ => cell_after p vx1
    have avx2 := fun p : After _ => cell_after p vx2
    have avx3 := fun p : After _ => cell_after p vx3
    have avx4 := fun p : After _ => cell_after p vx4
    have avx5 := fun p : After _ => cell_after p vx5
    have avx6 := fun p : After _ => cell_after p vx6
    have avx7 := fun p : After _ => cell_after p vx7
    refine wp_region_after (by kernel_rfl) (by kernel_rfl) ?_
    repeat (go_big_quiet_step (first | (go_at_call 36; with_reducible exact calls_after _ (HS1.out _)) | (go_at_call 36; with_reducible exact calls_after _ (HS2.out _)) | (go_at_call 36; with_reducible exact calls_after _ (HS3.out _))))
    refine wpQuiet_nil ?_
    intro w7 hw'
    obtain ⟨⟨wq, h6⟩, hw''⟩ := hw'
    subst hw''
    have HB7 := Lib.hid (HB.out.trans ((HB6.out.trans (h6.mono HB6.out.size)).mono HB.out.size))
    clear h6
    clear c0 c1 c2 c3 c4 c5 c6 c7 d0 d1 d2 d3 d4 d5 d6 d7 tx0 tx1 tx2 tx3 tx4 tx5 tx6 tx7 ux0 ux1 ux2 ux3 ux4 ux5 ux6 ux7 vx0 vx1 vx2 vx3 vx4 vx5 vx6 vx7 ac0 ac1 ac2 ac3 ac4 ac5 ac6 ac7 ad0 ad1 ad2 ad3 ad4 ad5 ad6 ad7 atx0 atx1 atx2 atx3 atx4 atx5 atx6 atx7 aux0 aux1 aux2 aux3 aux4 aux5 aux6 aux7 avx0 avx1 avx2 avx3 avx4 avx5 avx6 avx7
    go_wp2_with fail
    go_roundw
    case rel => exact ⟨j + 1, by omega, by go_num, HB7⟩
    case measure =>
     simp [Go.RowKit.intOf]
     omega
  · obtain rfl : j = n := by omega
    go_wp2_with fail
    go_ret
    exact ⟨rfl, HBW.out⟩
end Go.Proofs.YtccgjdmbongbaaaGreatDoor
namespace Go.Proofs.YtccgjdmbongbaaaGreatDoor
open Go.RowKit Go.ChangeShapes Go.WideShapes Go.Deep
set_option linter.unusedVariables false
set_option linter.unusedSimpArgs false
set_option maxRecDepth 10000
def TxOk (t : Tv) : Prop := Tcok t.c
theorem txnCells8 : Tryz.prog.cellsOf 47 = 8 := by kernel_rfl
section
variable {H : Type} {enc : TypeId × Value → H} {w : World} {base : Nat} {held : Bool}
theorem txn_trod {fuel : Nat} {cs : List Value} {d : DataW H × List MemPlace} (h : DataW.trod enc Tryz.prog w base (fun _ => true) held fuel 47 cs = some d) : ∃ t : Tv, (TvM w t ∧ Tcok t.c) ∧ cs = tce t := by
 obtain ⟨xs, n, _, _, hlen, hxl, hg⟩ := DataW.trod_struct Tryz.underlying47 h
 rw [txnCells8] at hlen
 obtain ⟨v0, v1, v2, v3, v4, v5, v6, v7, rfl⟩ : ∃ v0 v1 v2 v3 v4 v5 v6 v7, cs = [v0, v1, v2, v3, v4, v5, v6, v7] := by
  match cs, hlen with
  | [a0, a1, a2, a3, a4, a5, a6, a7], _ => exact ⟨a0, a1, a2, a3, a4, a5, a6, a7, rfl⟩
 have h8 : xs.length = 8 := hxl
 have t0 := hg 0 _ rfl
 have t1 := hg 1 _ rfl
 have t2 := hg 2 _ rfl
 have t3 := hg 3 _ rfl
 have t4 := hg 4 _ rfl
 have t5 := hg 5 _ rfl
 have t6 := hg 6 _ rfl
 have t7 := hg 7 _ rfl
 rw [List.getElem?_eq_getElem (by omega)] at t0 t1 t2 t3 t4 t5 t6 t7
 have e0 : DataW.trod enc Tryz.prog w base (fun _ => true) held n 32 [v0] = some (xs[0]'(by omega)) := t0
 have e1 : DataW.trod enc Tryz.prog w base (fun _ => true) held n 32 [v1] = some (xs[1]'(by omega)) := t1
 have e2 : DataW.trod enc Tryz.prog w base (fun _ => true) held n 5 [v2] = some (xs[2]'(by omega)) := t2
 have e3 : DataW.trod enc Tryz.prog w base (fun _ => true) held n 4 [v3] = some (xs[3]'(by omega)) := t3
 have e4 : DataW.trod enc Tryz.prog w base (fun _ => true) held n 4 [v4] = some (xs[4]'(by omega)) := t4
 have e5 : DataW.trod enc Tryz.prog w base (fun _ => true) held n 45 [v5] = some (xs[5]'(by omega)) := t5
 have e6 : DataW.trod enc Tryz.prog w base (fun _ => true) held n 2 [v6] = some (xs[6]'(by omega)) := t6
 have e7 : DataW.trod enc Tryz.prog w base (fun _ => true) held n 3 [v7] = some (xs[7]'(by omega)) := t7
 obtain ⟨z0, hv0, _, wf0⟩ := DataW.trod_int Tryz.underlying32 e0
 obtain ⟨z1, hv1, _, wf1⟩ := DataW.trod_int Tryz.underlying32 e1
 obtain ⟨z2, hv2, _, wf2⟩ := DataW.trod_int Tryz.underlying5 e2
 obtain ⟨z6, hv6, _, wf6⟩ := DataW.trod_int Tryz.underlying2 e6
 obtain ⟨z7, hv7, _, wf7⟩ := DataW.trod_int Tryz.underlying3 e7
 obtain ⟨z3, hv3, _⟩ := DataW.trod_bool Tryz.underlying4 e3
 obtain ⟨z4, hv4, _⟩ := DataW.trod_bool Tryz.underlying4 e4
 simp at hv0 hv1 hv2 hv3 hv4 hv6 hv7
 subst hv0 hv1 hv2 hv3 hv4 hv6 hv7
 obtain ⟨p5, n5, c5, rfl⟩ := slice_shape Tryz.underlying45 e5
 obtain ⟨L, hL, hLok⟩ := open_ops e5
 exact ⟨⟨⟨z0, z1, z2, z3, z4, L, z6, z7⟩, p5, n5, c5⟩, ⟨hL, ⟨bounds32 wf0, bounds32 wf1, bounds_u8 wf2, hLok, bounds_i64 wf6, bounds_i64 wf7⟩⟩, rfl⟩
theorem open_txns {fuel : Nat} {a : Option Addr} {len cap : Nat} {x : DataW H × List MemPlace}
 (h : DataW.trod enc Tryz.prog w base (fun _ => true) held fuel 22 [.slice a len cap] = some x) : ∃ L, TL w a len cap L ∧ ∀ y ∈ L, TxOk y := by
 rcases open_slice Tryz.underlying22 h with ⟨hcs, _⟩ | ⟨a', l, c, m, n, D, Pl, hcs, hb, hl, hm, hmm, hx, hi⟩
 · simp at hcs
   obtain ⟨rfl, rfl, rfl⟩ := hcs
   exact ⟨[], TL.empty w, fun y hy => by cases hy⟩
 · simp at hcs
   obtain ⟨rfl, rfl, rfl⟩ := hcs
   rw [if_pos rfl] at hmm
   subst hmm
   have hall : ∀ i, i < len → ∃ y : Tv, (TvM w y ∧ Tcok y.c) ∧ ∀ j u, (tce y)[j]? = some u → w.cell? (a'.add (i * 8 + j)) = some u := by
    intro i hil
    obtain ⟨cs', hc, ht⟩ := hi i (by omega)
    rw [txnCells8] at hc
    obtain ⟨y, hy, rfl⟩ := txn_trod ht
    obtain ⟨_, hcl, hat⟩ := World.cells?_some hc
    refine ⟨y, hy, fun j u hu => ?_⟩
    have hj : j < 8 := (List.getElem?_eq_some_iff.1 hu).1
    have := hat j hj
    rw [← Go.Deep.add_add, this]
    exact hu
   obtain ⟨f, hf⟩ : ∃ f : Nat → Tv, ∀ i, i < len → (TvM w (f i) ∧ Tcok (f i).c) ∧ ∀ j u, (tce (f i))[j]? = some u → w.cell? (a'.add (i * 8 + j)) = some u :=
    ⟨fun i => if h : i < len then Classical.choose (hall i h) else tv0, fun i h => by dsimp only; rw [dif_pos h]; exact Classical.choose_spec (hall i h)⟩
   refine ⟨(List.range len).map f, ⟨⟨by simp, hl, hm, (fun h => by cases h), fun h0 => ?_⟩, fun y hy => ?_⟩, fun y hy => ?_⟩
   · have h00 := (hf 0 h0).2 0 _ rfl
     have hsp : a'.spot = none := World.cell?_spot (a := a') (by simpa [Addr.add] using h00)
     obtain ⟨b, off, sp⟩ := a'
     replace hsp : sp = none := hsp
     subst hsp
     rw [Go.WideShapes.add_plain] at h00
     refine ⟨b, off, rfl, World.block_lt_of_cell? _ _ h00, fun j hj i v hv => ?_⟩
     have e : ((List.range len).map f).getD j tv0 = f j := by
      rw [List.getD, List.getElem?_map, List.getElem?_range hj]; rfl
     rw [e] at hv
     have := (hf j hj).2 i v hv
     rwa [Go.WideShapes.add_plain, ← Nat.add_assoc] at this
   · obtain ⟨i, hi', rfl⟩ := List.mem_map.1 hy
     exact (hf i (List.mem_range.1 hi')).1.1
   · obtain ⟨i, hi', rfl⟩ := List.mem_map.1 hy
     exact (hf i (List.mem_range.1 hi')).1.2
end
end Go.Proofs.YtccgjdmbongbaaaGreatDoor
namespace Go.Proofs.YtccgjdmbongbaaaGreatDoor
open Go.RowKit Go.ChangeShapes Go.WideShapes
set_option linter.unusedVariables false
set_option linter.unusedSimpArgs false
set_option maxRecDepth 10000
variable {NB : Nat} {Wd : World → Prop} {Ju : World → Nat → List Tc → (Nat → Prop) → Prop}
structure JPl (Ju : World → Nat → List Tc → (Nat → Prop) → Prop) (w wr : World) (B : Nat) (M : List Tc) (Q : Nat → Prop) (r : Option Addr) (m d : Nat) (L : List Tv) (k : Nat) : Prop where
 ju : Ju wr B M Q
 rows : TL wr r m d L
 is : L.map (·.c) = M
 ok : TsOk M (12 + k) (1048576 + 10000 * k)
 low : ∀ j, Q j → w.heap.size ≤ j
 apart : 0 < m → ∀ a, r = some a → ¬ Q a.block
 each : ∀ t ∈ L, 0 < t.n → ∀ a, t.p = some a → ¬ Q a.block
 below : Below w.heap.size w wr
theorem JPl.later (I : JnI NB Wd Ju) {w wr w' : World} {B : Nat} {M : List Tc} {Q : Nat → Prop} {r : Option Addr} {m d : Nat} {L : List Tv} {k : Nat} (h : JPl Ju w wr B M Q r m d L k) (hb : Below wr.heap.size wr w') : JPl Ju w w' B M Q r m d L k :=
 ⟨I.later h.ju hb, h.rows.later hb, h.is, h.ok, h.low, h.apart, h.each, h.below.trans (hb.mono h.below.size)⟩
theorem JPl.jok {w wr : World} {B : Nat} {M : List Tc} {Q : Nat → Prop} {r : Option Addr} {m d : Nat} {L : List Tv} {k : Nat} (h : JPl Ju w wr B M Q r m d L k) (hk : k ≤ 100) : JOk M := h.ok.mono (by omega) (by omega)
theorem JPl.mem {w wr : World} {B : Nat} {M : List Tc} {Q : Nat → Prop} {r : Option Addr} {m d : Nat} {L : List Tv} {k : Nat} (h : JPl Ju w wr B M Q r m d L k) : ∀ t ∈ L, Tcok t.c ∧ t.n ≤ 20 ∧ 0 ≤ t.c.sz ∧ t.c.sz ≤ 1048576 + 10000 * k := fun t ht => by
 have hc : t.c ∈ M := by rw [← h.is]; exact List.mem_map_of_mem ht
 exact ⟨h.ok.ok _ hc, by rw [← (h.rows.each t ht).len]; exact h.ok.few _ hc, h.ok.sz _ hc⟩
theorem JPl.len {w wr : World} {B : Nat} {M : List Tc} {Q : Nat → Prop} {r : Option Addr} {m d : Nat} {L : List Tv} {k : Nat} (h : JPl Ju w wr B M Q r m d L k) : m ≤ 12 + k := by
 rw [← h.rows.row.len, ← List.length_map (f := (·.c)), h.is]
 exact h.ok.len
theorem tl_turn {w w' : World} {Q : Nat → Prop} {r : Option Addr} {m d : Nat} {L : List Tv} (h : TL w r m d L) (ht : Turn Q w w') (h1 : 0 < m → ∀ a, r = some a → ¬ Q a.block) (h2 : ∀ t ∈ L, 0 < t.n → ∀ a, t.p = some a → ¬ Q a.block) : TL w' r m d L :=
 ⟨h.row.turn ht.size fun h0 a ha hlt => ht.block a.block hlt (h1 h0 a ha), fun t htl => (h.each t htl).turn ht.size fun h0 a ha hlt => ht.block a.block hlt (h2 t htl h0 a ha)⟩
theorem slg_lt {α : Type} {enc : α → List Value} {k : Nat} {d0 : α} {w : World} {p : Option Addr} {n c : Nat} {L : List α} (h : SlG enc k d0 w p n c L) (h0 : 0 < n) {a : Addr} (e : p = some a) : a.block < w.heap.size := by
 obtain ⟨b, off, hp, hb, _⟩ := h.cell h0
 rw [hp] at e
 cases e
 exact hb
theorem JPl.step (I : JnI NB Wd Ju) {w wr w1 w2 : World} {B : Nat} {M M' : List Tc} {Q : Nat → Prop} {r r' : Option Addr} {m d m' d' : Nat} {L L' : List Tv} {k : Nat} (h : JPl Ju w wr B M Q r m d L k) (hb : Below wr.heap.size wr w1) (ht : TL w1 r' m' d' L') (hm : L'.map (·.c) = M') (hr : (r' = r ∧ m' = m) ∨ ∀ a, r' = some a → wr.heap.size ≤ a.block) (hf : ∀ t ∈ L', Frs wr L t)
 (hok : TsOk M' (12 + (k + 1)) (1048576 + 10000 * ((k + 1 : Nat) : Int))) (ha : JActed Ju w1 w2 B M' Q) : ∃ Q', JPl Ju w w2 B M' Q' r' m' d' L' (k + 1) := by
 obtain ⟨Q', g1, g2, g3⟩ := ha
 have hlt := I.lt h.ju
 have a1 : 0 < m' → ∀ a, r' = some a → ¬ Q a.block := fun h0 a e hq => by
  rcases hr with ⟨hr, hm0⟩ | hr
  · exact h.apart (by omega) a (hr ▸ e) hq
  · have := hr a e; have := hlt _ hq; omega
 have a2 : ∀ t ∈ L', 0 < t.n → ∀ a, t.p = some a → ¬ Q a.block := fun t htl h0 a e hq => by
  rcases hf t htl with ⟨u, hu, h1, h2⟩ | h1
  · exact h.each u hu (by omega) a (h1 ▸ e) hq
  · have := h1 a e; have := hlt _ hq; omega
 have TLAST := tl_turn ht g3 a1 a2
 refine ⟨Q', g1, TLAST, hm, hok, fun j hj => ?_, fun h0 a e hq => ?_, fun t htl h0 a e hq => ?_, (h.below.trans (hb.mono h.below.size)).trans (g3.below (Nat.le_trans h.below.size hb.size) h.low)⟩
 · rcases g2 j hj with e | e
   · exact h.low j e
   · exact Nat.le_trans (Nat.le_trans h.below.size hb.size) e
 · rcases g2 _ hq with e2 | e2
   · exact a1 h0 a e e2
   · have := slg_lt ht.row h0 e
     omega
 · rcases g2 _ hq with e2 | e2
   · exact a2 t htl h0 a e e2
   · have := slg_lt (ht.each t htl) h0 e
     omega
end Go.Proofs.YtccgjdmbongbaaaGreatDoor
