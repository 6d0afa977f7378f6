import Derived.Test.YtmdldbchdnkfcaaPA33
import Derived.Test.YtmdldbchdnkfcaaPA23
namespace Go.Proofs.Ytmdldbchdnkfcaa
open Go.RowKit Go.ChangeShapes Go.WideShapes
set_option linter.unusedVariables false
set_option linter.unusedSimpArgs false
set_option maxRecDepth 10000
structure FuT (w : World) (B T : Nat) (mb : Option Nat) (M : List FW) : Prop where
 b : w.heap[B]? = some (.cells #[.pointer (some ⟨T, 0, none⟩)] 61 (0, 0))
 t : FTab 85 w T mb M
 ne : B ≠ T
 nm : mb ≠ some B
def FuQ (B T : Nat) (mb : Option Nat) (j : Nat) : Prop := j = B ∨ foot T mb j
def Fu (w : World) (B : Nat) (M : List FW) (Q : Nat → Prop) : Prop := ∃ T mb, FuT w B T mb M ∧ Q = FuQ B T mb
theorem FuT.keep {w w' : World} {B T : Nat} {mb : Option Nat} {M : List FW} {S : Nat → Prop} (h : FuT w B T mb M) (ht : Turn S w w') (hs : ∀ j, FuQ B T mb j → ¬ S j) : FuT w' B T mb M :=
 ⟨(ht.block B (block_lt h.b) (hs B (.inl rfl))).trans h.b, h.t.kept ht (fun j hj => hs j (.inr hj)), h.ne, h.nm⟩
theorem FuT.later {w w' : World} {B T : Nat} {mb : Option Nat} {M : List FW} (h : FuT w B T mb M) (hb : Below w.heap.size w w') : FuT w' B T mb M := h.keep (Turn.of_below (S := fun _ => False) hb) (fun _ _ h => h)
theorem FuT.lt {w : World} {B T : Nat} {mb : Option Nat} {M : List FW} (h : FuT w B T mb M) : ∀ j, FuQ B T mb j → j < w.heap.size := by
 rintro j (rfl | hj)
 · exact block_lt h.b
 · exact h.t.foot_lt j hj
theorem Fu.keep {w w' : World} {B : Nat} {M : List FW} {Q S : Nat → Prop} (h : Fu w B M Q) (ht : Turn S w w') (hs : ∀ j, Q j → ¬ S j) : Fu w' B M Q := by
 obtain ⟨T, mb, h1, rfl⟩ := h
 exact ⟨T, mb, h1.keep ht hs, rfl⟩
theorem Fu.lt {w : World} {B : Nat} {M : List FW} {Q : Nat → Prop} (h : Fu w B M Q) : ∀ j, Q j → j < w.heap.size := by
 obtain ⟨T, mb, h1, rfl⟩ := h
 exact h1.lt
theorem FuT.put {w w2 w3 : World} {B T : Nat} {mb : Option Nat} {M M' : List FW} (h : FuT w B T mb M) (hb : Below w.heap.size w w2) (hp : FPuts 85 w2 T mb M' w3) : Acted Fu w w3 B M' (FuQ B T mb) := by
 obtain ⟨mb', h1, h2, h3⟩ := hp
 have h' := h.later hb
 have hB := block_lt h'.b
 refine ⟨FuQ B T mb', ⟨T, mb', ⟨(h3.block B hB ?_).trans h'.b, h1, h.ne, ?_⟩, rfl⟩, ?_, ?_⟩
 · rintro (e | e)
   · exact h.ne e
   · exact h.nm e
 · rcases h2 with e | ⟨b, e, hb2⟩
   · rw [e]; exact h.nm
   · rw [e]
     intro e2
     cases e2
     omega
 · rintro j (rfl | rfl | hj)
   · exact .inl (.inl rfl)
   · exact .inl (.inr (.inl rfl))
   · rcases h2 with e | ⟨b, e, hb2⟩
     · exact .inl (.inr (.inr (by rw [← e]; exact hj)))
     · rw [e] at hj
       cases hj
       exact .inr (Nat.le_trans hb.size hb2)
 · exact (Turn.of_below (S := FuQ B T mb) hb).trans h3 (fun _ _ hj => .inr hj)
theorem FuT.stays {w w2 : World} {B T : Nat} {mb : Option Nat} {M : List FW} (h : FuT w B T mb M) (hb : Below w.heap.size w w2) : Acted Fu w w2 B M (FuQ B T mb) :=
 ⟨FuQ B T mb, ⟨T, mb, h.later hb, rfl⟩, fun j hj => .inl hj, Turn.of_below hb⟩
structure SU (B T X : Nat) (k : K) (w : World) : Prop where
 b : w.heap[B]? = some (.cells #[.pointer (some ⟨T, 0, none⟩)] 61 (0, 0))
 x : w.heap[X]? = some (.cells #[.int .u8 k.1, .int .u8 k.2.1, .int .u8 k.2.2] 32 (0, 0))
theorem SU.later {B T X : Nat} {k : K} {w w' : World} (h : SU B T X k w) (hb : Below w.heap.size w w') : SU B T X k w' := ⟨block_later h.b hb, block_later h.x hb⟩
set_option maxHeartbeats 2000000 in
theorem fuget_any (k : K) (hk : Kok k) (W : World) (B T : Nat) (mb : Option Nat) (M : List FW) (h : FuT W B T mb M) :
 Calls Try.prog 21 #[.pointer (some ⟨B, 0, none⟩), .agg #[.int .u8 k.1, .int .u8 k.2.1, .int .u8 k.2.2]] W fun e w' => e = .returned (.tuple #[.agg (fcs ((getG M k).getD fz)), .bool (getG M k).isSome]) ∧ Below W.heap.size W w' := by
 obtain ⟨hb0, hx0, hr0⟩ := ftwo_boxes W #[.int .u8 k.1, .int .u8 k.2.1, .int .u8 k.2.2] #[.int .i64 0, .int .i64 0, .int .i64 0, .int .i64 0, .int .i64 0, .int .i64 0] 32 42
 have HB0 := Lib.hid hb0
 have HR0 := Lib.hid hr0
 have HX0 := Lib.hid hx0
 have HC := Lib.hid fun w' (hb : Below W.heap.size W w') => ftget_any _ k hk w' T mb M (h.later hb).t
 have HBB := Lib.hid (h.later hb0).b
 have HLT := Lib.hid (block_lt h.b)
 obtain ⟨X, hX⟩ : ∃ X, W.heap.size = X := ⟨_, rfl⟩
 have HHX := Lib.hid hX
 rw [hX] at HR0 HX0
 clear hb0 hx0 hr0 h hk
 obtain ⟨⟨h1, h2, h3, h4, h5, h6⟩, hgd⟩ : ∃ f, (getG M k).getD fz = f := ⟨_, rfl⟩
 rw [hgd] at HC ⊢
 clear hgd
 generalize (getG M k).isSome = gb at *
 go_enter Try.func21, Try.ntmps21
 go_upto_region 1 with (fail)
 clear hX
 generalize (W.alloc (.cells #[.int .u8 k.1, .int .u8 k.2.1, .int .u8 k.2.2] 32)).alloc (.cells #[.int .i64 0, .int .i64 0, .int .i64 0, .int .i64 0, .int .i64 0, .int .i64 0] 42) = V0 at *
 have HO : Hid (W.heap.size ≤ X + 1 ∧ B ≠ X + 1 ∧ X ≠ X + 1) := Lib.hid ⟨by rw [HHX.out]; omega, by have := HLT.out; rw [HHX.out] at this; omega, by omega⟩
 generalize X + 1 = R at *
 go_wp2_with fail
 have hbd : SU B T X k V0.drew := ⟨HBB.out, HX0.out⟩
 have HRD : Hid (V0.drew.heap[R]? = some (.cells #[.int .i64 0, .int .i64 0, .int .i64 0, .int .i64 0, .int .i64 0, .int .i64 0] 42 (0, 0))) := Lib.hid HR0.out
 have HBD0 := Lib.hid (below_drewN HB0.out 1)
 have HBD : Hid (Below W.heap.size W V0.drew) := Lib.hid HBD0.out
 clear HBD0 HB0 HR0 HBB HX0
 refine wp_region_held_drew (S := fun w' => Hid (SU B T X k w')) (by kernel_rfl) (Lib.hid hbd) (fun hHeld => ?_)
 clear hbd
 generalize V0.drew = W3 at *
 refine wpAnyH_take (i := 0) (oi := ⟨some 9, _, _, _, _, _⟩) (v := .pointer (some ⟨B, 0, none⟩)) rfl (by kernel_rfl) (by kernel_rfl) (by kernel_rfl) (fun _ _ _ h => h) (Or.inl ⟨by rfl, fun w' hw' => ?_⟩) (by assumption) ?_
 · clear hHeld
   go_simp
 simp only [Act.put, List.setIfInBounds_toArray, List.set_cons_zero, List.set_cons_succ]
 refine wpAnyH_take (i := 1) (oi := ⟨some 10, _, _, _, _, _⟩) (v := .pointer (some ⟨B, 0, none⟩)) rfl (by kernel_rfl) (by kernel_rfl) (by kernel_rfl) (fun _ _ _ h => h) (Or.inl ⟨by rfl, fun w' hw' => ?_⟩) (by assumption) ?_
 · clear hHeld
   go_simp
 simp only [Act.put, List.setIfInBounds_toArray, List.set_cons_zero, List.set_cons_succ]
 refine wpAnyH_take (i := 2) (oi := ⟨some 11, _, _, _, _, _⟩) (v := .pointer (some ⟨B, 0, none⟩)) rfl (by kernel_rfl) (by kernel_rfl) (by kernel_rfl) (fun _ _ _ h => h) (Or.inl ⟨by rfl, fun w' hw' => ?_⟩) (by assumption) ?_
 · clear hHeld
   go_simp
 simp only [Act.put, List.setIfInBounds_toArray, List.set_cons_zero, List.set_cons_succ]
 refine wpAnyH_take (i := 3) (oi := ⟨some 12, _, _, _, _, _⟩) (v := .pointer (some ⟨T, 0, none⟩)) rfl (by kernel_rfl) (by kernel_rfl) (by kernel_rfl) (fun _ _ _ h => h) (Or.inl ⟨by rfl, fun w' hw' => ?_⟩) (by assumption) ?_
 · have c0 := block_cell (j := 0) hw'.out.b rfl
   clear hHeld
   go_simp
 simp only [Act.put, List.setIfInBounds_toArray, List.set_cons_zero, List.set_cons_succ]
 refine wpAnyH_take (i := 4) (oi := ⟨some 13, _, _, _, _, _⟩) (v := .agg #[.int .u8 k.1, .int .u8 k.2.1, .int .u8 k.2.2]) rfl (by kernel_rfl) (by kernel_rfl) (by kernel_rfl) (fun _ _ _ h => h) (Or.inl ⟨by rfl, fun w' hw' => ?_⟩) (by assumption) ?_
 · have c0 := block_cell (j := 0) hw'.out.x rfl; have c1 := block_cell (j := 1) hw'.out.x rfl; have c2 := block_cell (j := 2) hw'.out.x rfl
   clear hHeld
   go_simp
 simp only [Act.put, List.setIfInBounds_toArray, List.set_cons_zero, List.set_cons_succ]
 refine wpAnyH_ready (rs := [5]) (by kernel_rfl) (by simp) (AllReadyH.cons rfl (fun K hK => ?_) (AllReadyH.nil))
 go_simp
 go_wp2_with fail
 refine (HC.out _ HBD.out).mono ?_
 rintro e4 w4 ⟨rfl, hb4⟩
 have hSN : Hid (SU B T X k w4) := Lib.hid (hHeld.out.later hb4)
 have HR4 := Lib.hid (block_later HRD.out hb4)
 have HB4 := Lib.hid (HBD.out.trans (hb4.mono HBD.out.size))
 clear hb4 HRD HBD
 go_wp2_with fail
 refine hK.out _ _ hSN (fun hHeld2 => ?_)
 try simp only [Act.put, List.setIfInBounds_toArray, List.set_cons_zero, List.set_cons_succ]
 clear hSN hK K hHeld
 have hHeld := hHeld2
 clear hHeld2
 refine wpAnyH_take (i := 6) (oi := ⟨some 15, _, _, _, _, _⟩) (v := .agg #[.int .i64 h1, .int .i64 h2, .int .i64 h3, .int .i64 h4, .int .i64 h5, .int .i64 h6]) rfl (by kernel_rfl) (by kernel_rfl) (by kernel_rfl) (fun _ _ _ h => h) (Or.inl ⟨by rfl, fun w' hw' => ?_⟩) (by assumption) ?_
 · clear hHeld
   go_simp
 simp only [Act.put, List.setIfInBounds_toArray, List.set_cons_zero, List.set_cons_succ]
 refine wpAnyH_take (i := 7) (oi := ⟨some 16, _, _, _, _, _⟩) (v := .bool gb) rfl (by kernel_rfl) (by kernel_rfl) (by kernel_rfl) (fun _ _ _ h => h) (Or.inl ⟨by rfl, fun w' hw' => ?_⟩) (by assumption) ?_
 · clear hHeld
   go_simp
 simp only [Act.put, List.setIfInBounds_toArray, List.set_cons_zero, List.set_cons_succ]
 refine wpAnyH_ready (rs := [8]) (by kernel_rfl) (by simp) (AllReadyH.cons rfl (fun K hK => ?_) (AllReadyH.nil))
 obtain ⟨r0, r1, r2, r3, r4, r5⟩ := fcells HR4.out
 obtain ⟨f0, f1, f2, f3, f4, f5⟩ := ffree HR4.out
 have HR5 := Lib.hid (fstored (a' := .int .i64 h1) (b' := .int .i64 h2) (c' := .int .i64 h3) (d' := .int .i64 h4) (e' := .int .i64 h5) (f' := .int .i64 h6) HR4.out)
 have HB5 := Lib.hid (fkept HB4.out HO.out.1 (.int .i64 h1) (.int .i64 h2) (.int .i64 h3) (.int .i64 h4) (.int .i64 h5) (.int .i64 h6))
 have hch := ft_chg w4 R (.int .i64 h1) (.int .i64 h2) (.int .i64 h3) (.int .i64 h4) (.int .i64 h5) (.int .i64 h6)
 have hSN : Hid (SU B T X k ((((((w4.setCell ⟨R, 0, none⟩ (.int .i64 h1)).setCell ⟨R, 1, none⟩ (.int .i64 h2)).setCell ⟨R, 2, none⟩ (.int .i64 h3)).setCell ⟨R, 3, none⟩ (.int .i64 h4)).setCell ⟨R, 4, none⟩ (.int .i64 h5)).setCell ⟨R, 5, none⟩ (.int .i64 h6))) := Lib.hid ⟨(hch.block B (block_lt hHeld.out.b) (fun e => HO.out.2.1 e)).trans hHeld.out.b, (hch.block X (block_lt hHeld.out.x) (fun e => HO.out.2.2 e)).trans hHeld.out.x⟩
 clear hch
 go_simp
 go_wp2_with fail
 refine hK.out _ _ hSN (fun hHeld2 => ?_)
 try simp only [Act.put, List.setIfInBounds_toArray, List.set_cons_zero, List.set_cons_succ]
 clear hSN hK K hHeld r0 r1 r2 r3 r4 r5 f0 f1 f2 f3 f4 f5
 have hHeld := hHeld2
 clear hHeld2 HR4 HB4
 refine wpAnyH_take (i := 9) (oi := ⟨some 5, _, _, _, _, _⟩) (v := .bool gb) rfl (by kernel_rfl) (by kernel_rfl) (by kernel_rfl) (fun _ _ _ h => h) (Or.inl ⟨by rfl, fun w' hw' => ?_⟩) (by assumption) ?_
 · clear hHeld
   go_simp
 simp only [Act.put, List.setIfInBounds_toArray, List.set_cons_zero, List.set_cons_succ]
 refine wpAnyH_done (by kernel_rfl) ?_ _
 clear hHeld
 go_wp2_with fail
 refine bodyPost_ret (v := .tuple #[.agg #[.int .i64 h1, .int .i64 h2, .int .i64 h3, .int .i64 h4, .int .i64 h5, .int .i64 h6], .bool gb]) ?_ rfl ⟨rfl, HB5.out⟩
 exact results_ff rfl _ _ R _ rfl _ rfl rfl HR5.out
theorem fu_made {W w1 : World} {T : Nat} {mb : Option Nat} {M : List FW} (h : FTab 85 w1 T mb M) (hf : ∀ j, foot T mb j → W.heap.size ≤ j) (hb : Below W.heap.size W w1) :
 FuT (w1.alloc (.cells #[.pointer (some ⟨T, 0, none⟩)] 61)) w1.heap.size T mb M ∧ (∀ j, FuQ w1.heap.size T mb j → W.heap.size ≤ j) ∧ Below W.heap.size W (w1.alloc (.cells #[.pointer (some ⟨T, 0, none⟩)] 61)) := by
 have hlt := h.foot_lt
 have hba : Below w1.heap.size w1 (w1.alloc (.cells #[.pointer (some ⟨T, 0, none⟩)] 61)) := (Below.refl _ _).alloc (Nat.le_refl _) _
 refine ⟨⟨alloc_block w1 _, h.later hba, fun e => ?_, fun e => ?_⟩, ?_, hb.trans (hba.mono hb.size)⟩
 · have := hlt T (.inl rfl)
   omega
 · have := hlt _ (.inr e)
   omega
 · rintro j (rfl | hj)
   · exact hb.size
   · exact hf j hj
set_option maxHeartbeats 1000000 in
theorem cl_grant (f : Fv) (k : K) (d : Int) (cb : Nat) (W : World) (hf : Fok f) (hd : I64 d) (hx : W.heap[cb]? = some (.cells #[.int .u8 k.1, .int .u8 k.2.1, .int .u8 k.2.2, .int .i64 d] 34 (0, 0))) :
 Calls Try.prog 42 #[.agg (fcs f), .pointer (some ⟨cb, 0, none⟩)] W fun r w' => r = .returned (.tuple #[.agg (fcs (grantF f d)), .int .i64 (grantE f d)]) ∧ Below W.heap.size W w' := by
 have HW := Lib.hid fun W => grant_any f d W hf hd
 generalize grantF f d = g at *
 generalize grantE f d = z at *
 have HA := Lib.hid (Fx.start W f)
 have cd := block_cell (j := 3) (v := .int .i64 d) (block_later hx HA.out.below) rfl
 have HHB := Lib.hid (block_lt hx)
 obtain ⟨X, hX⟩ : ∃ X, W.heap.size = X := ⟨_, rfl⟩
 have HHX := Lib.hid hX
 rw [hX] at HA
 obtain ⟨lo, hi, ba, inf, sup, va⟩ := f
 obtain ⟨a1, a2, a3, a4, a5, a6⟩ := g
 clear hf hd hx
 go_enter Try.func42, Try.ntmps42
 go_upto_region 1 with (fail)
 clear hX
 generalize (W.alloc (.cells #[.int .i64 lo, .int .i64 hi, .int .i64 ba, .int .i64 inf, .int .i64 sup, .int .i64 va] 42)).alloc (.cells #[.int .i64 0, .int .i64 0, .int .i64 0, .int .i64 0, .int .i64 0, .int .i64 0] 42) = V0 at *
 obtain ⟨q0, q1, q2, q3, q4, q5⟩ := fcells HA.out.x
 go_wp2_with fail
 clear q0 q1 q2 q3 q4 q5 cd
 refine (HW.out _).mono ?_
 rintro e1 w1 ⟨rfl, hb1⟩
 replace HA := Lib.hid (HA.out.later hb1)
 generalize X + 1 = R at *
 clear hb1 HW
 obtain ⟨r0, r1, r2, r3, r4, r5⟩ := fcells HA.out.r
 obtain ⟨f0, f1, f2, f3, f4, f5⟩ := ffree HA.out.r
 have HF := Lib.hid (fstored (a' := .int .i64 a1) (b' := .int .i64 a2) (c' := .int .i64 a3) (d' := .int .i64 a4) (e' := .int .i64 a5) (f' := .int .i64 a6) HA.out.r)
 have HG := Lib.hid (fkept HA.out.below HA.out.ord (.int .i64 a1) (.int .i64 a2) (.int .i64 a3) (.int .i64 a4) (.int .i64 a5) (.int .i64 a6))
 clear HA
 go_wp2_with fail
 refine bodyPost_ret (v := .tuple #[.agg #[.int .i64 a1, .int .i64 a2, .int .i64 a3, .int .i64 a4, .int .i64 a5, .int .i64 a6], .int .i64 z]) ?_ rfl ⟨rfl, HG.out⟩
 exact results_ff rfl _ _ R _ rfl _ rfl rfl HF.out
set_option maxHeartbeats 1000000 in
theorem cl_undo (f : Fv) (k : K) (d : Int) (cb : Nat) (W : World) (hf : Fok f) (hd : I64 d) (hx : W.heap[cb]? = some (.cells #[.int .u8 k.1, .int .u8 k.2.1, .int .u8 k.2.2, .int .i64 d] 34 (0, 0))) :
 Calls Try.prog 44 #[.agg (fcs f), .pointer (some ⟨cb, 0, none⟩)] W fun r w' => r = .returned (.tuple #[.agg (fcs (moveF f d (-1) 0 0 (-1))), .int .i64 (moveE f d (-1) 0 0 (-1))]) ∧ Below W.heap.size W w' := by
 have HW := Lib.hid fun W => fundo_any f d W hf hd
 generalize moveF f d (-1) 0 0 (-1) = g at *
 generalize moveE f d (-1) 0 0 (-1) = z at *
 have HA := Lib.hid (Fx.start W f)
 have cd := block_cell (j := 3) (v := .int .i64 d) (block_later hx HA.out.below) rfl
 have HHB := Lib.hid (block_lt hx)
 obtain ⟨X, hX⟩ : ∃ X, W.heap.size = X := ⟨_, rfl⟩
 have HHX := Lib.hid hX
 rw [hX] at HA
 obtain ⟨lo, hi, ba, inf, sup, va⟩ := f
 obtain ⟨a1, a2, a3, a4, a5, a6⟩ := g
 clear hf hd hx
 go_enter Try.func44, Try.ntmps44
 go_upto_region 1 with (fail)
 clear hX
 generalize (W.alloc (.cells #[.int .i64 lo, .int .i64 hi, .int .i64 ba, .int .i64 inf, .int .i64 sup, .int .i64 va] 42)).alloc (.cells #[.int .i64 0, .int .i64 0, .int .i64 0, .int .i64 0, .int .i64 0, .int .i64 0] 42) = V0 at *
 obtain ⟨q0, q1, q2, q3, q4, q5⟩ := fcells HA.out.x
 go_wp2_with fail
 clear q0 q1 q2 q3 q4 q5 cd
 refine (HW.out _).mono ?_
 rintro e1 w1 ⟨rfl, hb1⟩
 replace HA := Lib.hid (HA.out.later hb1)
 generalize X + 1 = R at *
 clear hb1 HW
 obtain ⟨r0, r1, r2, r3, r4, r5⟩ := fcells HA.out.r
 obtain ⟨f0, f1, f2, f3, f4, f5⟩ := ffree HA.out.r
 have HF := Lib.hid (fstored (a' := .int .i64 a1) (b' := .int .i64 a2) (c' := .int .i64 a3) (d' := .int .i64 a4) (e' := .int .i64 a5) (f' := .int .i64 a6) HA.out.r)
 have HG := Lib.hid (fkept HA.out.below HA.out.ord (.int .i64 a1) (.int .i64 a2) (.int .i64 a3) (.int .i64 a4) (.int .i64 a5) (.int .i64 a6))
 clear HA
 go_wp2_with fail
 refine bodyPost_ret (v := .tuple #[.agg #[.int .i64 a1, .int .i64 a2, .int .i64 a3, .int .i64 a4, .int .i64 a5, .int .i64 a6], .int .i64 z]) ?_ rfl ⟨rfl, HG.out⟩
 exact results_ff rfl _ _ R _ rfl _ rfl rfl HF.out
set_option maxHeartbeats 1000000 in
theorem cl_settle (f : Fv) (k : K) (d : Int) (cb : Nat) (W : World) (hf : Fok f) (hd : I64 d) (hx : W.heap[cb]? = some (.cells #[.int .u8 k.1, .int .u8 k.2.1, .int .u8 k.2.2, .int .i64 d] 34 (0, 0))) :
 Calls Try.prog 52 #[.agg (fcs f), .pointer (some ⟨cb, 0, none⟩)] W fun r w' => r = .returned (.tuple #[.agg (fcs (moveF f d 0 1 1 0)), .int .i64 (moveE f d 0 1 1 0)]) ∧ Below W.heap.size W w' := by
 have HW := Lib.hid fun W => settle_any f d W hf hd
 generalize moveF f d 0 1 1 0 = g at *
 generalize moveE f d 0 1 1 0 = z at *
 have HA := Lib.hid (Fx.start W f)
 have cd := block_cell (j := 3) (v := .int .i64 d) (block_later hx HA.out.below) rfl
 have HHB := Lib.hid (block_lt hx)
 obtain ⟨X, hX⟩ : ∃ X, W.heap.size = X := ⟨_, rfl⟩
 have HHX := Lib.hid hX
 rw [hX] at HA
 obtain ⟨lo, hi, ba, inf, sup, va⟩ := f
 obtain ⟨a1, a2, a3, a4, a5, a6⟩ := g
 clear hf hd hx
 go_enter Try.func52, Try.ntmps52
 go_upto_region 1 with (fail)
 clear hX
 generalize (W.alloc (.cells #[.int .i64 lo, .int .i64 hi, .int .i64 ba, .int .i64 inf, .int .i64 sup, .int .i64 va] 42)).alloc (.cells #[.int .i64 0, .int .i64 0, .int .i64 0, .int .i64 0, .int .i64 0, .int .i64 0] 42) = V0 at *
 obtain ⟨q0, q1, q2, q3, q4, q5⟩ := fcells HA.out.x
 go_wp2_with fail
 clear q0 q1 q2 q3 q4 q5 cd
 refine (HW.out _).mono ?_
 rintro e1 w1 ⟨rfl, hb1⟩
 replace HA := Lib.hid (HA.out.later hb1)
 generalize X + 1 = R at *
 clear hb1 HW
 obtain ⟨r0, r1, r2, r3, r4, r5⟩ := fcells HA.out.r
 obtain ⟨f0, f1, f2, f3, f4, f5⟩ := ffree HA.out.r
 have HF := Lib.hid (fstored (a' := .int .i64 a1) (b' := .int .i64 a2) (c' := .int .i64 a3) (d' := .int .i64 a4) (e' := .int .i64 a5) (f' := .int .i64 a6) HA.out.r)
 have HG := Lib.hid (fkept HA.out.below HA.out.ord (.int .i64 a1) (.int .i64 a2) (.int .i64 a3) (.int .i64 a4) (.int .i64 a5) (.int .i64 a6))
 clear HA
 go_wp2_with fail
 refine bodyPost_ret (v := .tuple #[.agg #[.int .i64 a1, .int .i64 a2, .int .i64 a3, .int .i64 a4, .int .i64 a5, .int .i64 a6], .int .i64 z]) ?_ rfl ⟨rfl, HG.out⟩
 exact results_ff rfl _ _ R _ rfl _ rfl rfl HF.out
set_option maxHeartbeats 1000000 in
theorem cl_back (f : Fv) (k : K) (d : Int) (cb : Nat) (W : World) (hf : Fok f) (hd : I64 d) (hx : W.heap[cb]? = some (.cells #[.int .u8 k.1, .int .u8 k.2.1, .int .u8 k.2.2, .int .i64 d] 34 (0, 0))) :
 Calls Try.prog 54 #[.agg (fcs f), .pointer (some ⟨cb, 0, none⟩)] W fun r w' => r = .returned (.tuple #[.agg (fcs (moveF f d (-1) 0 0 0)), .int .i64 (moveE f d (-1) 0 0 0)]) ∧ Below W.heap.size W w' := by
 have HW := Lib.hid fun W => back_any f d W hf hd
 generalize moveF f d (-1) 0 0 0 = g at *
 generalize moveE f d (-1) 0 0 0 = z at *
 have HA := Lib.hid (Fx.start W f)
 have cd := block_cell (j := 3) (v := .int .i64 d) (block_later hx HA.out.below) rfl
 have HHB := Lib.hid (block_lt hx)
 obtain ⟨X, hX⟩ : ∃ X, W.heap.size = X := ⟨_, rfl⟩
 have HHX := Lib.hid hX
 rw [hX] at HA
 obtain ⟨lo, hi, ba, inf, sup, va⟩ := f
 obtain ⟨a1, a2, a3, a4, a5, a6⟩ := g
 clear hf hd hx
 go_enter Try.func54, Try.ntmps54
 go_upto_region 1 with (fail)
 clear hX
 generalize (W.alloc (.cells #[.int .i64 lo, .int .i64 hi, .int .i64 ba, .int .i64 inf, .int .i64 sup, .int .i64 va] 42)).alloc (.cells #[.int .i64 0, .int .i64 0, .int .i64 0, .int .i64 0, .int .i64 0, .int .i64 0] 42) = V0 at *
 obtain ⟨q0, q1, q2, q3, q4, q5⟩ := fcells HA.out.x
 go_wp2_with fail
 clear q0 q1 q2 q3 q4 q5 cd
 refine (HW.out _).mono ?_
 rintro e1 w1 ⟨rfl, hb1⟩
 replace HA := Lib.hid (HA.out.later hb1)
 generalize X + 1 = R at *
 clear hb1 HW
 obtain ⟨r0, r1, r2, r3, r4, r5⟩ := fcells HA.out.r
 obtain ⟨f0, f1, f2, f3, f4, f5⟩ := ffree HA.out.r
 have HF := Lib.hid (fstored (a' := .int .i64 a1) (b' := .int .i64 a2) (c' := .int .i64 a3) (d' := .int .i64 a4) (e' := .int .i64 a5) (f' := .int .i64 a6) HA.out.r)
 have HG := Lib.hid (fkept HA.out.below HA.out.ord (.int .i64 a1) (.int .i64 a2) (.int .i64 a3) (.int .i64 a4) (.int .i64 a5) (.int .i64 a6))
 clear HA
 go_wp2_with fail
 refine bodyPost_ret (v := .tuple #[.agg #[.int .i64 a1, .int .i64 a2, .int .i64 a3, .int .i64 a4, .int .i64 a5, .int .i64 a6], .int .i64 z]) ?_ rfl ⟨rfl, HG.out⟩
 exact results_ff rfl _ _ R _ rfl _ rfl rfl HF.out
set_option maxHeartbeats 1000000 in
theorem cl_forth (f : Fv) (k : K) (d : Int) (cb : Nat) (W : World) (hf : Fok f) (hd : I64 d) (hx : W.heap[cb]? = some (.cells #[.int .u8 k.1, .int .u8 k.2.1, .int .u8 k.2.2, .int .i64 d] 34 (0, 0))) :
 Calls Try.prog 56 #[.agg (fcs f), .pointer (some ⟨cb, 0, none⟩)] W fun r w' => r = .returned (.tuple #[.agg (fcs (moveF f d 1 0 0 0)), .int .i64 (moveE f d 1 0 0 0)]) ∧ Below W.heap.size W w' := by
 have HW := Lib.hid fun W => forth_any f d W hf hd
 generalize moveF f d 1 0 0 0 = g at *
 generalize moveE f d 1 0 0 0 = z at *
 have HA := Lib.hid (Fx.start W f)
 have cd := block_cell (j := 3) (v := .int .i64 d) (block_later hx HA.out.below) rfl
 have HHB := Lib.hid (block_lt hx)
 obtain ⟨X, hX⟩ : ∃ X, W.heap.size = X := ⟨_, rfl⟩
 have HHX := Lib.hid hX
 rw [hX] at HA
 obtain ⟨lo, hi, ba, inf, sup, va⟩ := f
 obtain ⟨a1, a2, a3, a4, a5, a6⟩ := g
 clear hf hd hx
 go_enter Try.func56, Try.ntmps56
 go_upto_region 1 with (fail)
 clear hX
 generalize (W.alloc (.cells #[.int .i64 lo, .int .i64 hi, .int .i64 ba, .int .i64 inf, .int .i64 sup, .int .i64 va] 42)).alloc (.cells #[.int .i64 0, .int .i64 0, .int .i64 0, .int .i64 0, .int .i64 0, .int .i64 0] 42) = V0 at *
 obtain ⟨q0, q1, q2, q3, q4, q5⟩ := fcells HA.out.x
 go_wp2_with fail
 clear q0 q1 q2 q3 q4 q5 cd
 refine (HW.out _).mono ?_
 rintro e1 w1 ⟨rfl, hb1⟩
 replace HA := Lib.hid (HA.out.later hb1)
 generalize X + 1 = R at *
 clear hb1 HW
 obtain ⟨r0, r1, r2, r3, r4, r5⟩ := fcells HA.out.r
 obtain ⟨f0, f1, f2, f3, f4, f5⟩ := ffree HA.out.r
 have HF := Lib.hid (fstored (a' := .int .i64 a1) (b' := .int .i64 a2) (c' := .int .i64 a3) (d' := .int .i64 a4) (e' := .int .i64 a5) (f' := .int .i64 a6) HA.out.r)
 have HG := Lib.hid (fkept HA.out.below HA.out.ord (.int .i64 a1) (.int .i64 a2) (.int .i64 a3) (.int .i64 a4) (.int .i64 a5) (.int .i64 a6))
 clear HA
 go_wp2_with fail
 refine bodyPost_ret (v := .tuple #[.agg #[.int .i64 a1, .int .i64 a2, .int .i64 a3, .int .i64 a4, .int .i64 a5, .int .i64 a6], .int .i64 z]) ?_ rfl ⟨rfl, HG.out⟩
 exact results_ff rfl _ _ R _ rfl _ rfl rfl HF.out
set_option maxHeartbeats 1000000 in
theorem cl_drop (f : Fv) (k : K) (d : Int) (cb : Nat) (W : World) (hf : Fok f) (hd : I64 d) (hx : W.heap[cb]? = some (.cells #[.int .u8 k.1, .int .u8 k.2.1, .int .u8 k.2.2, .int .i64 d] 34 (0, 0))) :
 Calls Try.prog 58 #[.agg (fcs f), .pointer (some ⟨cb, 0, none⟩)] W fun r w' => r = .returned (.tuple #[.agg (fcs (moveF f d 0 0 0 (-1))), .int .i64 (moveE f d 0 0 0 (-1))]) ∧ Below W.heap.size W w' := by
 have HW := Lib.hid fun W => drop_any f d W hf hd
 generalize moveF f d 0 0 0 (-1) = g at *
 generalize moveE f d 0 0 0 (-1) = z at *
 have HA := Lib.hid (Fx.start W f)
 have cd := block_cell (j := 3) (v := .int .i64 d) (block_later hx HA.out.below) rfl
 have HHB := Lib.hid (block_lt hx)
 obtain ⟨X, hX⟩ : ∃ X, W.heap.size = X := ⟨_, rfl⟩
 have HHX := Lib.hid hX
 rw [hX] at HA
 obtain ⟨lo, hi, ba, inf, sup, va⟩ := f
 obtain ⟨a1, a2, a3, a4, a5, a6⟩ := g
 clear hf hd hx
 go_enter Try.func58, Try.ntmps58
 go_upto_region 1 with (fail)
 clear hX
 generalize (W.alloc (.cells #[.int .i64 lo, .int .i64 hi, .int .i64 ba, .int .i64 inf, .int .i64 sup, .int .i64 va] 42)).alloc (.cells #[.int .i64 0, .int .i64 0, .int .i64 0, .int .i64 0, .int .i64 0, .int .i64 0] 42) = V0 at *
 obtain ⟨q0, q1, q2, q3, q4, q5⟩ := fcells HA.out.x
 go_wp2_with fail
 clear q0 q1 q2 q3 q4 q5 cd
 refine (HW.out _).mono ?_
 rintro e1 w1 ⟨rfl, hb1⟩
 replace HA := Lib.hid (HA.out.later hb1)
 generalize X + 1 = R at *
 clear hb1 HW
 obtain ⟨r0, r1, r2, r3, r4, r5⟩ := fcells HA.out.r
 obtain ⟨f0, f1, f2, f3, f4, f5⟩ := ffree HA.out.r
 have HF := Lib.hid (fstored (a' := .int .i64 a1) (b' := .int .i64 a2) (c' := .int .i64 a3) (d' := .int .i64 a4) (e' := .int .i64 a5) (f' := .int .i64 a6) HA.out.r)
 have HG := Lib.hid (fkept HA.out.below HA.out.ord (.int .i64 a1) (.int .i64 a2) (.int .i64 a3) (.int .i64 a4) (.int .i64 a5) (.int .i64 a6))
 clear HA
 go_wp2_with fail
 refine bodyPost_ret (v := .tuple #[.agg #[.int .i64 a1, .int .i64 a2, .int .i64 a3, .int .i64 a4, .int .i64 a5, .int .i64 a6], .int .i64 z]) ?_ rfl ⟨rfl, HG.out⟩
 exact results_ff rfl _ _ R _ rfl _ rfl rfl HF.out
set_option maxHeartbeats 1000000 in
theorem cl_set (f x : Fv) (cb : Nat) (W : World) (hx : W.heap[cb]? = some (.cells (fcs x) 42 (0, 0))) :
 Calls Try.prog 39 #[.agg (fcs f), .pointer (some ⟨cb, 0, none⟩)] W fun r w' => r = .returned (.tuple #[.agg (fcs (if goodF x = true then x else f)), .int .i64 (if goodF x = true then 0 else 12)]) ∧ Below W.heap.size W w' := by
 have HW := Lib.hid fun W => fgood_any x W
 have HA := Lib.hid (Fx.start W f)
 have HXB := Lib.hid (block_later hx HA.out.below)
 obtain ⟨X, hX⟩ : ∃ X, W.heap.size = X := ⟨_, rfl⟩
 have HHX := Lib.hid hX
 rw [hX] at HA
 obtain ⟨lo, hi, ba, inf, sup, va⟩ := f
 obtain ⟨v1, v2, v3, v4, v5, v6⟩ := x
 clear hx
 cases hg : goodF ⟨v1, v2, v3, v4, v5, v6⟩ with
 | true =>
  rw [hg] at HW
  clear hg
  simp only [reduceIte, Bool.false_eq_true, if_false]
  go_enter Try.func39, Try.ntmps39
  go_upto_region 1 with (fail)
  clear hX
  generalize (W.alloc (.cells #[.int .i64 lo, .int .i64 hi, .int .i64 ba, .int .i64 inf, .int .i64 sup, .int .i64 va] 42)).alloc (.cells #[.int .i64 0, .int .i64 0, .int .i64 0, .int .i64 0, .int .i64 0, .int .i64 0] 42) = V0 at *
  obtain ⟨q0, q1, q2, q3, q4, q5⟩ := fcells HXB.out
  go_wp2_with fail
  clear q0 q1 q2 q3 q4 q5
  refine (HW.out _).mono ?_
  rintro e1 w1 ⟨rfl, hb1⟩
  replace HA := Lib.hid (HA.out.later hb1)
  replace HXB := Lib.hid (block_later HXB.out hb1)
  generalize X + 1 = R at *
  clear hb1 HW
  obtain ⟨q0, q1, q2, q3, q4, q5⟩ := fcells HXB.out
  obtain ⟨r0, r1, r2, r3, r4, r5⟩ := fcells HA.out.r
  obtain ⟨f0, f1, f2, f3, f4, f5⟩ := ffree HA.out.r
  have HF := Lib.hid (fstored (a' := .int .i64 v1) (b' := .int .i64 v2) (c' := .int .i64 v3) (d' := .int .i64 v4) (e' := .int .i64 v5) (f' := .int .i64 v6) HA.out.r)
  have HG := Lib.hid (fkept HA.out.below HA.out.ord (.int .i64 v1) (.int .i64 v2) (.int .i64 v3) (.int .i64 v4) (.int .i64 v5) (.int .i64 v6))
  clear HA HXB
  go_wp2_with fail
  refine bodyPost_ret (v := .tuple #[.agg #[.int .i64 v1, .int .i64 v2, .int .i64 v3, .int .i64 v4, .int .i64 v5, .int .i64 v6], .int .i64 0]) ?_ rfl ⟨rfl, HG.out⟩
  exact results_ff rfl _ _ R _ rfl _ rfl rfl HF.out
 | false =>
  rw [hg] at HW
  clear hg
  simp only [reduceIte, Bool.false_eq_true, if_false]
  go_enter Try.func39, Try.ntmps39
  go_upto_region 1 with (fail)
  clear hX
  generalize (W.alloc (.cells #[.int .i64 lo, .int .i64 hi, .int .i64 ba, .int .i64 inf, .int .i64 sup, .int .i64 va] 42)).alloc (.cells #[.int .i64 0, .int .i64 0, .int .i64 0, .int .i64 0, .int .i64 0, .int .i64 0] 42) = V0 at *
  obtain ⟨q0, q1, q2, q3, q4, q5⟩ := fcells HXB.out
  go_wp2_with fail
  clear q0 q1 q2 q3 q4 q5
  refine (HW.out _).mono ?_
  rintro e1 w1 ⟨rfl, hb1⟩
  replace HA := Lib.hid (HA.out.later hb1)
  replace HXB := Lib.hid (block_later HXB.out hb1)
  generalize X + 1 = R at *
  clear hb1 HW
  obtain ⟨q0, q1, q2, q3, q4, q5⟩ := fcells HA.out.x
  obtain ⟨r0, r1, r2, r3, r4, r5⟩ := fcells HA.out.r
  obtain ⟨f0, f1, f2, f3, f4, f5⟩ := ffree HA.out.r
  have HF := Lib.hid (fstored (a' := .int .i64 lo) (b' := .int .i64 hi) (c' := .int .i64 ba) (d' := .int .i64 inf) (e' := .int .i64 sup) (f' := .int .i64 va) HA.out.r)
  have HG := Lib.hid (fkept HA.out.below HA.out.ord (.int .i64 lo) (.int .i64 hi) (.int .i64 ba) (.int .i64 inf) (.int .i64 sup) (.int .i64 va))
  clear HA HXB
  go_wp2_with fail
  refine bodyPost_ret (v := .tuple #[.agg #[.int .i64 lo, .int .i64 hi, .int .i64 ba, .int .i64 inf, .int .i64 sup, .int .i64 va], .int .i64 12]) ?_ rfl ⟨rfl, HG.out⟩
  exact results_ff rfl _ _ R _ rfl _ rfl rfl HF.out
end Go.Proofs.Ytmdldbchdnkfcaa
