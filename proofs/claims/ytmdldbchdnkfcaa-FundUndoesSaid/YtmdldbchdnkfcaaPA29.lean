import Derived.Test.YtmdldbchdnkfcaaPA28
namespace Go.Proofs.Ytmdldbchdnkfcaa
open Go.RowKit Go.ChangeShapes Go.WideShapes
set_option linter.unusedVariables false
set_option linter.unusedSimpArgs false
set_option maxRecDepth 10000
def fdoL (c : Int) (L : List FW) (k : K) (d : Int) : List FW := match getG L k with | none => L | some f => if doE c f d = 0 then putG L k (doF c f d) else L
def fdoE (c : Int) (L : List FW) (k : K) (d : Int) : Int := match getG L k with | none => 10 | some f => doE c f d
theorem fdoL_some {c : Int} {L : List FW} {k : K} {d : Int} {f : Fv} (h : getG L k = some f) : fdoL c L k d = (if doE c f d = 0 then putG L k (doF c f d) else L) ∧ fdoE c L k d = doE c f d := by
 unfold fdoL fdoE
 rw [h]
 exact ⟨rfl, rfl⟩
theorem fdoL_none {c : Int} {L : List FW} {k : K} {d : Int} (h : getG L k = none) : fdoL c L k d = L ∧ fdoE c L k d = 10 := by
 unfold fdoL fdoE
 rw [h]
 exact ⟨rfl, rfl⟩
structure SO (X G : Nat) (oc gc : Array Value) (w : World) : Prop where
 x : w.heap[X]? = some (.cells oc 34 (0, 0))
 g : w.heap[G]? = some (.cells gc 42 (0, 0))
theorem SO.chg {S : Nat → Prop} {X G : Nat} {oc gc : Array Value} {w w' : World} (h : SO X G oc gc w) (hc : Chg S w w') (h1 : ¬ S X) (h2 : ¬ S G) : SO X G oc gc w' :=
 ⟨(hc.block X (block_lt h.x) h1).trans h.x, (hc.block G (block_lt h.g) h2).trans h.g⟩
theorem SO.later {X G : Nat} {oc gc : Array Value} {w w' : World} (h : SO X G oc gc w) (hb : Below w.heap.size w w') : SO X G oc gc w' :=
 h.chg (Chg.of_below (S := fun _ => False) hb) (fun h => h) (fun h => h)
theorem ocells {w : World} {B : Nat} {a b c d : Value} {T : TypeId} (h : w.heap[B]? = some (.cells #[a, b, c, d] T (0, 0))) : w.cell? ⟨B, 0, none⟩ = some a ∧ w.cell? ⟨B, 1, none⟩ = some b ∧ w.cell? ⟨B, 2, none⟩ = some c ∧ w.cell? ⟨B, 3, none⟩ = some d :=
 ⟨block_cell h rfl, block_cell h rfl, block_cell h rfl, block_cell h rfl⟩
theorem fput_chg6 (w : World) (Z : Nat) (a' b' c' d' e' f' : Value) : Chg (fun k => k = Z) w ((((((w.setCell ⟨Z, 0, none⟩ a').setCell ⟨Z, 1, none⟩ b').setCell ⟨Z, 2, none⟩ c').setCell ⟨Z, 3, none⟩ d').setCell ⟨Z, 4, none⟩ e').setCell ⟨Z, 5, none⟩ f') :=
 ((((((Chg.refl (fun k => k = Z) w).setCell ⟨Z, 0, none⟩ _ fun _ => rfl).setCell ⟨Z, 1, none⟩ _ fun _ => rfl).setCell ⟨Z, 2, none⟩ _ fun _ => rfl).setCell ⟨Z, 3, none⟩ _ fun _ => rfl).setCell ⟨Z, 4, none⟩ _ fun _ => rfl).setCell ⟨Z, 5, none⟩ _ fun _ => rfl
set_option maxHeartbeats 1000000 in
theorem fwdo_none (p : Option Addr) (n m : Nat) (L : List FW) (c d : Int) (k : K) (W : World) (hL : FWL W p n m L) (hn : n ≤ 10000) (hg : getG L k = none) :
 Calls Try.prog 11 #[.slice p n m, .int .i64 c, .agg #[.int .u8 k.1, .int .u8 k.2.1, .int .u8 k.2.2, .int .i64 d]] W (GivesWE W p L 10) := by
 have HG := Lib.hid fun w' (hb : Below W.heap.size W w') => fwget_any p n m L k w' (hL.later hb) (by omega)
 have HLL := Lib.hid fun w' (hb : Below W.heap.size W w') => hL.later hb
 rw [hg] at HG
 have HB0 : Hid (Below W.heap.size W (W.alloc (.cells #[.int .u8 k.1, .int .u8 k.2.1, .int .u8 k.2.2, .int .i64 d] 34))) := Lib.hid ((Below.refl _ _).alloc (Nat.le_refl _) _)
 have HX0 := Lib.hid (alloc_block W (.cells #[.int .u8 k.1, .int .u8 k.2.1, .int .u8 k.2.2, .int .i64 d] 34))
 obtain ⟨X, hX⟩ : ∃ X, W.heap.size = X := ⟨_, rfl⟩
 have HHX := Lib.hid hX
 rw [hX] at HX0
 clear hL hg
 go_enter Try.func11, Try.ntmps11
 go_upto_region 1 with (fail)
 clear hX
 generalize W.alloc (.cells #[.int .u8 k.1, .int .u8 k.2.1, .int .u8 k.2.2, .int .i64 d] 34) = V0 at *
 obtain ⟨x0, x1, x2, x3⟩ := ocells HX0.out
 go_wp2_with fail
 clear x0 x1 x2 x3
 refine (HG.out _ HB0.out).mono ?_
 rintro e1 w1 ⟨rfl, hb1⟩
 have HB1 := Lib.hid (HB0.out.trans (hb1.mono HB0.out.size))
 clear hb1
 simp only [Option.getD_none, Option.isSome_none]
 have HBA := Lib.hid (HB1.out.alloc HB1.out.size (.cells #[.int .i64 0, .int .i64 0, .int .i64 0, .int .i64 0, .int .i64 0, .int .i64 0] 42))
 have HLF := Lib.hid (HLL.out _ HBA.out)
 go_wp2_with fail
 go_ret2
 exact ⟨p, n, m, rfl, HLF.out, HBA.out, .inl rfl⟩
set_option maxHeartbeats 4000000 in
theorem fwdo_some (p : Option Addr) (n m : Nat) (L : List FW) (c d : Int) (k : K) (v : Fv) (W : World) (hL : FWL W p n m L) (hn : n ≤ 10000) (hg : getG L k = some v) (hv : Fok v) (hd : I64 d) (hc0 : 0 ≤ c) (hc5 : c ≤ 5) :
 Calls Try.prog 11 #[.slice p n m, .int .i64 c, .agg #[.int .u8 k.1, .int .u8 k.2.1, .int .u8 k.2.2, .int .i64 d]] W (GivesWE W p (if doE c v d = 0 then putG L k (doF c v d) else L) (doE c v d)) := by
 have HG := Lib.hid fun w' (hb : Below W.heap.size W w') => fwget_any p n m L k w' (hL.later hb) (by omega)
 have HLL := Lib.hid fun w' (hb : Below W.heap.size W w') => hL.later hb
 rw [hg] at HG
 have HP := Lib.hid fun w' (hb : Below W.heap.size W w') => fwput_any p n m L k (doF c v d) w' (hL.later hb) (by omega)
 have H2 := Lib.hid fun w => rgrant_any v d w hv hd
 have HZ0 : Hid (c = 0 → doF c v d = grantF v d ∧ doE c v d = grantE v d) := Lib.hid (fun h => by rw [h]; exact doF_zero v d)
 obtain ⟨m1, m2, m3, m4⟩ := mv_k3 c
 have H3 : Hid (0 < c → ∀ w, Calls Try.prog 32 #[.int .i64 c] w fun r w' => r = .returned (.agg #[.int .i64 (mvV c), .int .i64 (mvB c), .int .i64 (mvN c), .int .i64 (mvF c)]) ∧ Below w.heap.size w w') := Lib.hid fun h w => moved_any c w (by omega)
 have H4 : Hid (0 < c → ∀ w, Calls Try.prog 31 #[.agg (fcs v), .int .i64 d, .agg #[.int .i64 (mvV c), .int .i64 (mvB c), .int .i64 (mvN c), .int .i64 (mvF c)]] w fun r w' => r = .returned (.tuple #[.agg (fcs (doF c v d)), .int .i64 (doE c v d)]) ∧ Below w.heap.size w w') := Lib.hid fun h w => by
  have hh := frdo_any v d (mvV c) (mvB c) (mvN c) (mvF c) w hv hd m1 m2 m3 m4
  rw [show moveF v d (mvV c) (mvB c) (mvN c) (mvF c) = doF c v d from (if_neg (by omega)).symm, show moveE v d (mvV c) (mvB c) (mvN c) (mvF c) = doE c v d from (if_neg (by omega)).symm] at hh
  exact hh
 generalize doF c v d = g at *
 generalize doE c v d = z at *
 generalize grantF v d = x at *
 generalize grantE v d = e at *
 generalize mvV c = n1 at *
 generalize mvB c = n2 at *
 generalize mvN c = n3 at *
 generalize mvF c = n4 at *
 generalize hQ : (if z = 0 then putG L k g else L) = Q at *
 have HQ := Lib.hid hQ
 clear hQ
 obtain ⟨v1, v2, v3, v4, v5, v6⟩ := v
 obtain ⟨g1, g2, g3, g4, g5, g6⟩ := g
 obtain ⟨x1, x2, x3, x4, x5, x6⟩ := x
 have HB0 : Hid (Below W.heap.size W (W.alloc (.cells #[.int .u8 k.1, .int .u8 k.2.1, .int .u8 k.2.2, .int .i64 d] 34))) := Lib.hid ((Below.refl _ _).alloc (Nat.le_refl _) _)
 have HX0 := Lib.hid (alloc_block W (.cells #[.int .u8 k.1, .int .u8 k.2.1, .int .u8 k.2.2, .int .i64 d] 34))
 obtain ⟨X, hX⟩ : ∃ X, W.heap.size = X := ⟨_, rfl⟩
 have HHX := Lib.hid hX
 rw [hX] at HX0
 have HCC := Lib.hid (And.intro hc0 hc5)
 clear hL hg hv hd m1 m2 m3 m4 hc0 hc5
 go_enter Try.func11, Try.ntmps11
 go_upto_region 1 with (fail)
 clear hX
 generalize W.alloc (.cells #[.int .u8 k.1, .int .u8 k.2.1, .int .u8 k.2.2, .int .i64 d] 34) = V0 at *
 obtain ⟨x0, y1, y2, y3⟩ := ocells HX0.out
 go_wp2_with fail
 clear x0 y1 y2 y3
 refine (HG.out _ HB0.out).mono ?_
 rintro e1 w1 ⟨rfl, hb1⟩
 simp only [Option.getD_some, Option.isSome_some]
 have hbn : Below w1.heap.size w1 (w1.alloc (.cells #[.int .i64 v1, .int .i64 v2, .int .i64 v3, .int .i64 v4, .int .i64 v5, .int .i64 v6] 42)) := (Below.refl _ _).alloc (Nat.le_refl _) _
 have HX1 := Lib.hid (block_later (block_later HX0.out hb1) hbn)
 have HV1 := Lib.hid (alloc_block w1 (.cells #[.int .i64 v1, .int .i64 v2, .int .i64 v3, .int .i64 v4, .int .i64 v5, .int .i64 v6] 42))
 have HB1 := Lib.hid (HB0.out.trans ((hb1.trans (hbn.mono hb1.size)).mono HB0.out.size))
 clear hb1 hbn HX0 HB0 HG
 go_upto_region 4 with (fail)
 generalize w1.alloc (.cells #[.int .i64 v1, .int .i64 v2, .int .i64 v3, .int .i64 v4, .int .i64 v5, .int .i64 v6] 42) = W1 at *
 generalize w1.heap.size = G1 at *
 obtain ⟨x0, y1, y2, y3⟩ := ocells HX1.out
 obtain ⟨b0, b1, b2, b3, b4, b5⟩ := fcells HV1.out
 go_wp2_with fail
 clear x0 y1 y2 y3 b0 b1 b2 b3 b4 b5
 refine (H2.out _).mono ?_
 rintro e2 w2 ⟨rfl, hb2⟩
 have hbn : Below w2.heap.size w2 (w2.alloc (.cells #[.int .i64 x1, .int .i64 x2, .int .i64 x3, .int .i64 x4, .int .i64 x5, .int .i64 x6] 42)) := (Below.refl _ _).alloc (Nat.le_refl _) _
 have HOO : Hid (W.heap.size ≤ w2.heap.size ∧ X ≠ w2.heap.size ∧ G1 ≠ w2.heap.size) := Lib.hid ⟨(HB1.out.trans (hb2.mono HB1.out.size)).size, Nat.ne_of_lt (block_lt (block_later HX1.out hb2)), Nat.ne_of_lt (block_lt (block_later HV1.out hb2))⟩
 have HX2 := Lib.hid (block_later (block_later HX1.out hb2) hbn)
 have HV2 := Lib.hid (block_later (block_later HV1.out hb2) hbn)
 have HG2 := Lib.hid (alloc_block w2 (.cells #[.int .i64 x1, .int .i64 x2, .int .i64 x3, .int .i64 x4, .int .i64 x5, .int .i64 x6] 42))
 have HB2 := Lib.hid (HB1.out.trans ((hb2.trans (hbn.mono hb2.size)).mono HB1.out.size))
 clear hb2 hbn HX1 HV1 HB1 H2
 go_upto_region 5 with (fail)
 generalize w2.alloc (.cells #[.int .i64 x1, .int .i64 x2, .int .i64 x3, .int .i64 x4, .int .i64 x5, .int .i64 x6] 42) = W2 at *
 generalize w2.heap.size = G2 at *
 by_cases hc : 0 < c
 rotate_left
 · obtain ⟨hz1, hz2⟩ := HZ0.out (by have := HCC.out.1; omega)
   cases hz1
   subst hz2
   have HC1 := Lib.hid hc
   have HBF := HB2
   have HGF := HG2
   have HXF := HX2
   clear H3 H4 HZ0 HB2 HG2 HX2 HV2
   by_cases hz : z = 0
   · rw [if_pos hz] at HQ
     subst hz
     obtain ⟨x0, y1, y2, y3⟩ := ocells HXF.out
     obtain ⟨b0, b1, b2, b3, b4, b5⟩ := fcells HGF.out
     go_wp2_with fail
     clear x0 y1 y2 y3 b0 b1 b2 b3 b4 b5
     refine (HP.out _ HBF.out).mono ?_
     rintro e9 w9 ⟨r9, d9, rfl, hs9, hb9, hr9⟩
     have HR9 := Lib.hid (fun a ha => Nat.le_trans HBF.out.size (hr9 a ha))
     clear hr9
     have HS9 := Lib.hid hs9
     have HB9 := Lib.hid (HBF.out.trans (hb9.mono HBF.out.size))
     clear hs9 hb9
     go_wp2_with fail
     go_ret2
     exact ⟨r9, _, d9, rfl, by rw [← HQ.out]; exact HS9.out, HB9.out, .inr HR9.out⟩
   · rw [if_neg hz] at HQ
     have kz : (z != 0) = true := by simpa using hz
     have HLF := Lib.hid (HLL.out _ HBF.out)
     have HZZ := Lib.hid hz
     clear hz
     go_wp2_with fail
     go_ret2
     exact ⟨p, n, m, rfl, by rw [← HQ.out]; exact HLF.out, HBF.out, .inl rfl⟩
 have H3a := Lib.hid (H3.out hc)
 have H4a := Lib.hid (H4.out hc)
 clear H3 H4 HZ0
 go_wp2_with fail
 have hbd : SO X G1 #[.int .u8 k.1, .int .u8 k.2.1, .int .u8 k.2.2, .int .i64 d] #[.int .i64 v1, .int .i64 v2, .int .i64 v3, .int .i64 v4, .int .i64 v5, .int .i64 v6] W2.drew := ⟨HX2.out, HV2.out⟩
 have HGD : Hid (W2.drew.heap[G2]? = some (.cells #[.int .i64 x1, .int .i64 x2, .int .i64 x3, .int .i64 x4, .int .i64 x5, .int .i64 x6] 42 (0, 0))) := Lib.hid HG2.out
 have HBD : Hid (Below W.heap.size W W2.drew) := Lib.hid (below_drewN HB2.out 1)
 clear HX2 HV2 HG2 HB2
 refine wp_region_held_drew (S := fun w' => Hid (SO X G1 #[.int .u8 k.1, .int .u8 k.2.1, .int .u8 k.2.2, .int .i64 d] #[.int .i64 v1, .int .i64 v2, .int .i64 v3, .int .i64 v4, .int .i64 v5, .int .i64 v6] w')) (by kernel_rfl) (Lib.hid hbd) (fun hHeld => ?_)
 clear hbd
 generalize W2.drew = W3 at *
 refine wpAnyH_take (i := 0) (oi := ⟨some 32, _, _, _, _, _⟩) (v := .agg #[.int .i64 v1, .int .i64 v2, .int .i64 v3, .int .i64 v4, .int .i64 v5, .int .i64 v6]) rfl (by kernel_rfl) (by kernel_rfl) (by kernel_rfl) (fun _ _ _ h => h) (Or.inl ⟨by rfl, fun w' hw' => ?_⟩) (by assumption) ?_
 · obtain ⟨c0, c1, c2, c3, c4, c5⟩ := fcells hw'.out.g
   clear hHeld
   go_simp
 simp only [Act.put, List.setIfInBounds_toArray, List.set_cons_zero, List.set_cons_succ]
 refine wpAnyH_take (i := 1) (oi := ⟨some 33, _, _, _, _, _⟩) (v := .pointer (some ⟨X, 3, none⟩)) rfl (by kernel_rfl) (by kernel_rfl) (by kernel_rfl) (fun _ _ _ h => h) (Or.inl ⟨by rfl, fun w' hw' => ?_⟩) (by assumption) ?_
 · clear hHeld
   go_simp
 simp only [Act.put, List.setIfInBounds_toArray, List.set_cons_zero, List.set_cons_succ]
 refine wpAnyH_take (i := 2) (oi := ⟨some 34, _, _, _, _, _⟩) (v := .int .i64 d) rfl (by kernel_rfl) (by kernel_rfl) (by kernel_rfl) (fun _ _ _ h => h) (Or.inl ⟨by rfl, fun w' hw' => ?_⟩) (by assumption) ?_
 · obtain ⟨c0, c1, c2, c3⟩ := ocells hw'.out.x
   clear hHeld
   go_simp
 simp only [Act.put, List.setIfInBounds_toArray, List.set_cons_zero, List.set_cons_succ]
 refine wpAnyH_take (i := 3) (oi := ⟨some 35, _, _, _, _, _⟩) (v := .int .i64 c) rfl (by kernel_rfl) (by kernel_rfl) (by kernel_rfl) (fun _ _ _ h => h) (Or.inl ⟨by rfl, fun w' hw' => ?_⟩) (by assumption) ?_
 · clear hHeld
   go_simp
 simp only [Act.put, List.setIfInBounds_toArray, List.set_cons_zero, List.set_cons_succ]
 refine wpAnyH_ready (rs := [4]) (by kernel_rfl) (by simp) (AllReadyH.cons rfl (fun K hK => ?_) (AllReadyH.nil))
 go_simp
 go_wp2_with fail
 refine (H3a.out _).mono ?_
 rintro e3 w3 ⟨rfl, hb3⟩
 have hSN : Hid (SO X G1 #[.int .u8 k.1, .int .u8 k.2.1, .int .u8 k.2.2, .int .i64 d] #[.int .i64 v1, .int .i64 v2, .int .i64 v3, .int .i64 v4, .int .i64 v5, .int .i64 v6] w3) := Lib.hid (hHeld.out.later hb3)
 have HGE := Lib.hid (block_later HGD.out hb3)
 have HBE := Lib.hid (HBD.out.trans (hb3.mono HBD.out.size))
 clear hb3 HGD HBD
 go_wp2_with fail
 refine hK.out _ _ hSN (fun hHeld2 => ?_)
 try simp only [Act.put, List.setIfInBounds_toArray, List.set_cons_zero, List.set_cons_succ]
 clear hSN hK K hHeld
 have hHeld := hHeld2
 clear hHeld2
 refine wpAnyH_ready (rs := [5]) (by kernel_rfl) (by simp) (AllReadyH.cons rfl (fun K hK => ?_) (AllReadyH.nil))
 go_simp
 go_wp2_with fail
 refine (H4a.out _).mono ?_
 rintro e4 w4 ⟨rfl, hb4⟩
 have hSN : Hid (SO X G1 #[.int .u8 k.1, .int .u8 k.2.1, .int .u8 k.2.2, .int .i64 d] #[.int .i64 v1, .int .i64 v2, .int .i64 v3, .int .i64 v4, .int .i64 v5, .int .i64 v6] w4) := Lib.hid (hHeld.out.later hb4)
 have HGH := Lib.hid (block_later HGE.out hb4)
 have HBH := Lib.hid (HBE.out.trans (hb4.mono HBE.out.size))
 clear hb4 HGE HBE
 go_wp2_with fail
 refine hK.out _ _ hSN (fun hHeld2 => ?_)
 try simp only [Act.put, List.setIfInBounds_toArray, List.set_cons_zero, List.set_cons_succ]
 clear hSN hK K hHeld
 have hHeld := hHeld2
 clear hHeld2
 refine wpAnyH_take (i := 6) (oi := ⟨some 31, _, _, _, _, _⟩) (v := .tuple #[.agg #[.int .i64 g1, .int .i64 g2, .int .i64 g3, .int .i64 g4, .int .i64 g5, .int .i64 g6], .int .i64 z]) rfl (by kernel_rfl) (by kernel_rfl) (by kernel_rfl) (fun _ _ _ h => h) (Or.inl ⟨by rfl, fun w' hw' => ?_⟩) (by assumption) ?_
 · clear hHeld
   go_simp
 simp only [Act.put, List.setIfInBounds_toArray, List.set_cons_zero, List.set_cons_succ]
 refine wpAnyH_take (i := 7) (oi := ⟨some 38, _, _, _, _, _⟩) (v := .agg #[.int .i64 g1, .int .i64 g2, .int .i64 g3, .int .i64 g4, .int .i64 g5, .int .i64 g6]) rfl (by kernel_rfl) (by kernel_rfl) (by kernel_rfl) (fun _ _ _ h => h) (Or.inl ⟨by rfl, fun w' hw' => ?_⟩) (by assumption) ?_
 · clear hHeld
   go_simp
 simp only [Act.put, List.setIfInBounds_toArray, List.set_cons_zero, List.set_cons_succ]
 refine wpAnyH_take (i := 8) (oi := ⟨some 39, _, _, _, _, _⟩) (v := .int .i64 z) rfl (by kernel_rfl) (by kernel_rfl) (by kernel_rfl) (fun _ _ _ h => h) (Or.inl ⟨by rfl, fun w' hw' => ?_⟩) (by assumption) ?_
 · clear hHeld
   go_simp
 simp only [Act.put, List.setIfInBounds_toArray, List.set_cons_zero, List.set_cons_succ]
 refine wpAnyH_ready (rs := [9]) (by kernel_rfl) (by simp) (AllReadyH.cons rfl (fun K hK => ?_) (AllReadyH.nil))
 obtain ⟨r0, r1, r2, r3, r4, r5⟩ := fcells HGH.out
 obtain ⟨f0, f1, f2, f3, f4, f5⟩ := ffree HGH.out
 have HG5 := Lib.hid (fstored (a' := .int .i64 g1) (b' := .int .i64 g2) (c' := .int .i64 g3) (d' := .int .i64 g4) (e' := .int .i64 g5) (f' := .int .i64 g6) HGH.out)
 have hch := fput_chg6 w4 G2 (.int .i64 g1) (.int .i64 g2) (.int .i64 g3) (.int .i64 g4) (.int .i64 g5) (.int .i64 g6)
 have hSN : Hid (SO X G1 #[.int .u8 k.1, .int .u8 k.2.1, .int .u8 k.2.2, .int .i64 d] #[.int .i64 v1, .int .i64 v2, .int .i64 v3, .int .i64 v4, .int .i64 v5, .int .i64 v6] ((((((w4.setCell ⟨G2, 0, none⟩ (.int .i64 g1)).setCell ⟨G2, 1, none⟩ (.int .i64 g2)).setCell ⟨G2, 2, none⟩ (.int .i64 g3)).setCell ⟨G2, 3, none⟩ (.int .i64 g4)).setCell ⟨G2, 4, none⟩ (.int .i64 g5)).setCell ⟨G2, 5, none⟩ (.int .i64 g6))) := Lib.hid (hHeld.out.chg hch HOO.out.2.1 HOO.out.2.2)
 have HB5 := Lib.hid (fkept HBH.out HOO.out.1 (.int .i64 g1) (.int .i64 g2) (.int .i64 g3) (.int .i64 g4) (.int .i64 g5) (.int .i64 g6))
 clear hch
 go_simp
 go_wp2_with fail
 refine hK.out _ _ hSN (fun hHeld2 => ?_)
 try simp only [Act.put, List.setIfInBounds_toArray, List.set_cons_zero, List.set_cons_succ]
 clear hK K hHeld
 have hHeld := hHeld2
 clear hHeld2 r0 r1 r2 r3 r4 r5 f0 f1 f2 f3 f4 f5 HGH HBH
 refine wpAnyH_take (i := 10) (oi := ⟨some 11, _, _, _, _, _⟩) (v := .int .i64 z) rfl (by kernel_rfl) (by kernel_rfl) (by kernel_rfl) (fun _ _ _ h => h) (Or.inl ⟨by rfl, fun w' hw' => ?_⟩) (by assumption) ?_
 · clear hHeld
   go_simp
 simp only [Act.put, List.setIfInBounds_toArray, List.set_cons_zero, List.set_cons_succ]
 refine wpAnyH_done (by kernel_rfl) ?_ _
 have HH5 := hSN
 clear hHeld hSN
 generalize ((((((w4.setCell ⟨G2, 0, none⟩ (.int .i64 g1)).setCell ⟨G2, 1, none⟩ (.int .i64 g2)).setCell ⟨G2, 2, none⟩ (.int .i64 g3)).setCell ⟨G2, 3, none⟩ (.int .i64 g4)).setCell ⟨G2, 4, none⟩ (.int .i64 g5)).setCell ⟨G2, 5, none⟩ (.int .i64 g6)) = W5 at *
 have HBF := HB5
 have HGF := HG5
 have HXF : Hid (W5.heap[X]? = some (.cells #[.int .u8 k.1, .int .u8 k.2.1, .int .u8 k.2.2, .int .i64 d] 34 (0, 0))) := Lib.hid HH5.out.x
 clear HH5 HB5 HG5 H3a H4a
 by_cases hz : z = 0
 · rw [if_pos hz] at HQ
   subst hz
   obtain ⟨x0, y1, y2, y3⟩ := ocells HXF.out
   obtain ⟨b0, b1, b2, b3, b4, b5⟩ := fcells HGF.out
   go_wp2_with fail
   clear x0 y1 y2 y3 b0 b1 b2 b3 b4 b5
   refine (HP.out _ HBF.out).mono ?_
   rintro e9 w9 ⟨r9, d9, rfl, hs9, hb9, hr9⟩
   have HR9 := Lib.hid (fun a ha => Nat.le_trans HBF.out.size (hr9 a ha))
   clear hr9
   have HS9 := Lib.hid hs9
   have HB9 := Lib.hid (HBF.out.trans (hb9.mono HBF.out.size))
   clear hs9 hb9
   go_wp2_with fail
   go_ret2
   exact ⟨r9, _, d9, rfl, by rw [← HQ.out]; exact HS9.out, HB9.out, .inr HR9.out⟩
 · rw [if_neg hz] at HQ
   have kz : (z != 0) = true := by simpa using hz
   have HLF := Lib.hid (HLL.out _ HBF.out)
   have HZZ := Lib.hid hz
   clear hz
   go_wp2_with fail
   go_ret2
   exact ⟨p, n, m, rfl, by rw [← HQ.out]; exact HLF.out, HBF.out, .inl rfl⟩
theorem fwdo_any (p : Option Addr) (n m : Nat) (L : List FW) (c d : Int) (k : K) (W : World) (hL : FWL W p n m L) (hn : n ≤ 10000) (hv : ∀ r ∈ L, Fok r.2) (hd : I64 d) (hc0 : 0 ≤ c) (hc5 : c ≤ 5) :
 Calls Try.prog 11 #[.slice p n m, .int .i64 c, .agg #[.int .u8 k.1, .int .u8 k.2.1, .int .u8 k.2.2, .int .i64 d]] W (GivesWE W p (fdoL c L k d) (fdoE c L k d)) := by
 cases hg : getG L k with
 | none =>
  rw [(fdoL_none hg).1, (fdoL_none hg).2]
  exact fwdo_none p n m L c d k W hL hn hg
 | some v =>
  rw [(fdoL_some hg).1, (fdoL_some hg).2]
  exact fwdo_some p n m L c d k v W hL hn hg (hv _ (g_get_some_mem hg)) hd hc0 hc5
end Go.Proofs.Ytmdldbchdnkfcaa
