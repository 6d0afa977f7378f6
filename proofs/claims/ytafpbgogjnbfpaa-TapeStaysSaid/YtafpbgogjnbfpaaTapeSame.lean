/- A tape held against the document's: true, where both have the same. -/
import Derived.Test.YtafpbgogjnbfpaaTapeDo
import Derived.Deep.RegionHeld
namespace Go.Proofs.Ytafpbgogjnbfpaa
open Go.RowKit Go.ChangeShapes Go.WideShapes
set_option linter.unusedVariables false
set_option linter.unusedSimpArgs false

/-- A condition may be strengthened under way. -/
theorem wpAnyH_less {P : Program} {md : Region.Mode} {ops : Array Oper} {Q : Exit → Act → World → Prop} {S S2 : World → Prop} (h : ∀ w, S2 w → S w) : ∀ (fuel : Nat) (listed : Array Bool) (a : Act) (w : World), wpAnyH P md ops Q S2 fuel listed a w → wpAnyH P md ops Q S fuel listed a w
  | 0, _, _, _, hh => hh
  | fuel + 1, _, _, _, hh => ⟨hh.1, fun i hi => wpOp_mono (fun a' w' h' => ⟨h w' h'.1, wpAnyH_less h fuel _ a' w' h'.2⟩) (hh.2 i hi)⟩
section
variable {w : World} {T : Nat} {mb : Option Nat} {Q : Nat → Prop} {a : Int} {s : Nat} {t : TS}
set_option maxHeartbeats 4000000 in
set_option maxRecDepth 100000 in
theorem same_any (h : Tp w T mb Q a s t) (hbig : t.f * s + t.B.length ≤ 1000000) (p : Option Addr) (c : Nat) (hr : Rt w p c t.B) (x : Int) :
    Calls Try.prog 12 #[.pointer (some ⟨T, 0, none⟩), rv p t.B.length c (t.f * s) s, .int .i64 x] w fun e w' => e = .returned (.bool true) ∧ Below w.heap.size w w' := by
  have hs := h.s_in
  have hb0 : Below w.heap.size w (w.alloc (.cells #[.slice p t.B.length c, .int .i64 (t.f * s : Nat), .int .i64 (s : Nat)] 29)) := (Below.refl _ _).alloc (Nat.le_refl _) _
  have H0 := Lib.hid (h.later hb0)
  have HR0 := Lib.hid (hr.later hb0)
  have HX0 := Lib.hid (alloc_block w (.cells #[.slice p t.B.length c, .int .i64 (t.f * s : Nat), .int .i64 (s : Nat)] 29))
  have HB0 := Lib.hid hb0
  have HBIG := Lib.hid hbig
  have HNIL : Hid (bytesT s t (-1) = t.B) := Lib.hid (by
    have : fromT s t (-1) = 0 := by unfold fromT; omega
    unfold bytesT
    rw [this, List.drop_zero])
  obtain ⟨X, hX⟩ : ∃ X, w.heap.size = X := ⟨_, rfl⟩
  have HX := Lib.hid hX
  rw [hX] at HX0
  clear hb0 h hr
  generalize hW0 : w.alloc (.cells #[.slice p t.B.length c, .int .i64 (t.f * s : Nat), .int .i64 (s : Nat)] 29) = W0 at *
  obtain ⟨sx, hsx⟩ : ∃ sx, strOfNums (bytesT s t x) = sx := ⟨_, rfl⟩
  obtain ⟨sb, hsb⟩ : ∃ sb, strOfNums t.B = sb := ⟨_, rfl⟩
  have c14 : Hid (∀ w', Below W0.heap.size W0 w' → Calls Try.prog 14 #[.pointer (some ⟨T, 0, none⟩)] w' fun e w'' => e = .returned (.int .i64 (t.f * s : Nat)) ∧ w'' = w') := Lib.hid fun w' hb => tape_first (H0.out.later hb)
  have c15 : Hid (∀ w', Below W0.heap.size W0 w' → Calls Try.prog 15 #[.pointer (some ⟨T, 0, none⟩)] w' fun e w'' => e = .returned (.int .i64 (t.f * s + t.B.length : Nat)) ∧ w'' = w') := Lib.hid fun w' hb => tape_end (H0.out.later hb)
  have c16 : Hid (∀ w', Below W0.heap.size W0 w' → Calls Try.prog 16 #[.pointer (some ⟨T, 0, none⟩)] w' fun e w'' => e = .returned (.int .i64 (nS s t.B.length : Nat)) ∧ w'' = w') := Lib.hid fun w' hb => tape_segs (H0.out.later hb)
  have c24 : Hid (∀ w', Below W0.heap.size W0 w' → Calls Try.prog 24 #[.agg #[.slice p t.B.length c, .int .i64 (t.f * s : Nat), .int .i64 (s : Nat)]] w' fun e w'' => e = .returned (.int .i64 (t.f * s + t.B.length : Nat)) ∧ Below W0.heap.size W0 w'' ∧ Below w'.heap.size w' w'') := Lib.hid fun w' hb => (refend_any p t.B.length c (t.f * s) s w' (by omega)).mono fun e w'' hh => ⟨hh.1, hb.trans (hh.2.mono hb.size), hh.2⟩
  have c25 : Hid (∀ w', Below W0.heap.size W0 w' → Calls Try.prog 25 #[.agg #[.slice p t.B.length c, .int .i64 (t.f * s : Nat), .int .i64 (s : Nat)]] w' fun e w'' => e = .returned (.int .i64 (nS s t.B.length : Nat)) ∧ Below W0.heap.size W0 w'' ∧ Below w'.heap.size w' w'') := Lib.hid fun w' hb => (refsegs_any p t.B.length c (t.f * s) s w' (by omega) hs.2 (by omega)).mono fun e w'' hh => ⟨hh.1, hb.trans (hh.2.mono hb.size), hh.2⟩
  have c13 : Hid (∀ w', Below W0.heap.size W0 w' → Calls Try.prog 13 #[.pointer (some ⟨T, 0, none⟩), .int .i64 x] w' fun e w'' => ∃ p' n' c', e = .returned (.slice p' n' c') ∧ (∀ w3, Below w''.heap.size w'' w3 → (convert 27 9 (.slice p' n' c')).run Try.prog w3 = .ok (.string sx) w3) ∧ Below W0.heap.size W0 w'' ∧ Below w'.heap.size w' w'') := Lib.hid fun w' hb => (tape_bytes (H0.out.later hb) hbig x).mono fun e w'' hh => by
    obtain ⟨p', c', he, hbl, hbw, _⟩ := hh
    exact ⟨p', _, c', he, fun w3 h3 => by rw [← hsx]; exact conv_bl (SlG.later hbl h3), hb.trans (hbw.mono hb.size), hbw⟩
  have c13m : Hid (∀ w', Below W0.heap.size W0 w' → Calls Try.prog 13 #[.pointer (some ⟨T, 0, none⟩), .int .i64 (-1)] w' fun e w'' => ∃ p' n' c', e = .returned (.slice p' n' c') ∧ (∀ w3, Below w''.heap.size w'' w3 → (convert 27 9 (.slice p' n' c')).run Try.prog w3 = .ok (.string sb) w3) ∧ Below W0.heap.size W0 w'' ∧ Below w'.heap.size w' w'') := Lib.hid fun w' hb => (tape_bytes (H0.out.later hb) hbig (-1)).mono fun e w'' hh => by
    obtain ⟨p', c', he, hbl, hbw, _⟩ := hh
    rw [HNIL.out] at he hbl
    exact ⟨p', _, c', he, fun w3 h3 => by rw [← hsb]; exact conv_bl (SlG.later hbl h3), hb.trans (hbw.mono hb.size), hbw⟩
  have c26 : Hid (∀ w', Below W0.heap.size W0 w' → Calls Try.prog 26 #[.agg #[.slice p t.B.length c, .int .i64 (t.f * s : Nat), .int .i64 (s : Nat)], .int .i64 x] w' fun e w'' => ∃ p' n' c', e = .returned (.slice p' n' c') ∧ (∀ w3, Below w''.heap.size w'' w3 → (convert 27 9 (.slice p' n' c')).run Try.prog w3 = .ok (.string sx) w3) ∧ Below W0.heap.size W0 w'' ∧ Below w'.heap.size w' w'') := Lib.hid fun w' hb => (refbytes_any p c s t x w' (HR0.out.later hb) hbig).mono fun e w'' hh => by
    obtain ⟨p', c', he, hbl, hbw⟩ := hh
    exact ⟨p', _, c', he, fun w3 h3 => by rw [← hsx]; exact conv_bl (SlG.later hbl h3), hb.trans (hbw.mono hb.size), hbw⟩
  have HS : Hid (∀ w', Below W0.heap.size W0 w' → w'.cell? ⟨X, 0, none⟩ = some (.slice p t.B.length c) ∧ w'.cell? ⟨X, 1, none⟩ = some (.int .i64 (t.f * s : Nat)) ∧ w'.cell? ⟨X, 2, none⟩ = some (.int .i64 (s : Nat)) ∧ (convert 27 9 (.slice p t.B.length c)).run Try.prog w' = .ok (.string sb) w') := Lib.hid fun w' hb => by
    have h1 := block_later HX0.out hb
    exact ⟨block_cell h1 rfl, block_cell h1 rfl, block_cell h1 rfl, by rw [← hsb]; exact conv_bl (HR0.out.later hb).bl⟩
  have hbd : Below W0.heap.size W0 W0.drew := (Below.refl _ _).drew
  clear hsx hsb hbig
  generalize t.B.length = n at *
  generalize nS s n = ns at *
  generalize t.f * s = F at *
  generalize F + n = E at *
  unfold rv
  go_enter Try.func12, Try.ntmps12
  go_wp2_with fail
  refine wp_region_held_drew (S := fun w' => Hid (Below W0.heap.size W0 w')) (by kernel_rfl) (Lib.hid hbd) (fun hHeld => ?_)
  clear hbd
  refine wpAnyH_take (i := 0) (oi := ⟨some 7, _, _, _, _, _⟩) (v := .pointer (some ⟨T, 0, none⟩)) rfl (by kernel_rfl) (by kernel_rfl) (by kernel_rfl) (fun _ _ _ h => h) (Or.inl ⟨by rfl, fun w' hw' => ?_⟩) (by assumption) ?_
  · clear hHeld
    go_simp
  simp only [Act.put, List.setIfInBounds_toArray, List.set_cons_zero, List.set_cons_succ]
  refine wpAnyH_take (i := 2) (oi := ⟨some 9, _, _, _, _, _⟩) (v := .pointer (some ⟨X, 1, none⟩)) rfl (by kernel_rfl) (by kernel_rfl) (by kernel_rfl) (fun _ _ _ h => h) (Or.inl ⟨by rfl, fun w' hw' => ?_⟩) (by assumption) ?_
  · clear hHeld
    go_simp
  simp only [Act.put, List.setIfInBounds_toArray, List.set_cons_zero, List.set_cons_succ]
  refine wpAnyH_take (i := 3) (oi := ⟨some 10, _, _, _, _, _⟩) (v := .int .i64 (F : Nat)) rfl (by kernel_rfl) (by kernel_rfl) (by kernel_rfl) (fun _ _ _ h => h) (Or.inl ⟨by rfl, fun w' hw' => ?_⟩) (by assumption) ?_
  · obtain ⟨g0, g1, g2, g3⟩ := HS.out w' hw'.out
    clear hHeld
    go_simp
  simp only [Act.put, List.setIfInBounds_toArray, List.set_cons_zero, List.set_cons_succ]
  refine wpAnyH_ready (rs := [1]) (by kernel_rfl) (by simp) (AllReadyH.cons rfl (fun K hK => ?_) AllReadyH.nil)
  go_simp
  go_wp2_with fail
  refine (c14.out _ hHeld.out).mono ?_
  rintro e w5 ⟨rfl, rfl⟩
  go_wp2_with fail
  refine hK.out _ _ hHeld (fun hHeld2 => ?_)
  clear hK K hHeld
  have hHeld := hHeld2
  clear hHeld2
  refine wpAnyH_take (i := 4) (oi := ⟨some 11, _, _, _, _, _⟩) (v := .bool true) rfl (by kernel_rfl) (by kernel_rfl) (by kernel_rfl) (fun _ _ _ h => h) (Or.inl ⟨by rfl, fun w' hw' => ?_⟩) (by assumption) ?_
  · clear hHeld
    go_simp
  simp only [Act.put, List.setIfInBounds_toArray, List.set_cons_zero, List.set_cons_succ]
  refine wpAnyH_take (i := 5) (oi := ⟨some 12, _, _, _, _, _⟩) (v := .bool true) rfl (by kernel_rfl) (by kernel_rfl) (by kernel_rfl) (fun _ _ _ h => h) (Or.inl ⟨by rfl, fun w' hw' => ?_⟩) (by assumption) ?_
  · clear hHeld
    go_simp
  simp only [Act.put, List.setIfInBounds_toArray, List.set_cons_zero, List.set_cons_succ]
  refine wpAnyH_take (i := 6) (oi := ⟨some 13, _, _, _, _, _⟩) (v := .pointer (some ⟨T, 0, none⟩)) rfl (by kernel_rfl) (by kernel_rfl) (by kernel_rfl) (fun _ _ _ h => h) (Or.inl ⟨by rfl, fun w' hw' => ?_⟩) (by assumption) ?_
  · clear hHeld
    go_simp
  simp only [Act.put, List.setIfInBounds_toArray, List.set_cons_zero, List.set_cons_succ]
  refine wpAnyH_take (i := 8) (oi := ⟨some 15, _, _, _, _, _⟩) (v := .agg #[.slice p n c, .int .i64 (F : Nat), .int .i64 (s : Nat)]) rfl (by kernel_rfl) (by kernel_rfl) (by kernel_rfl) (fun _ _ _ h => h) (Or.inl ⟨by rfl, fun w' hw' => ?_⟩) (by assumption) ?_
  · obtain ⟨g0, g1, g2, g3⟩ := HS.out w' hw'.out
    clear hHeld
    go_simp
  simp only [Act.put, List.setIfInBounds_toArray, List.set_cons_zero, List.set_cons_succ]
  refine wpAnyH_ready (rs := [7]) (by kernel_rfl) (by simp) (AllReadyH.cons rfl (fun K hK => ?_) AllReadyH.nil)
  go_simp
  go_wp2_with fail
  refine (c15.out _ hHeld.out).mono ?_
  rintro e w5 ⟨rfl, rfl⟩
  go_wp2_with fail
  refine hK.out _ _ hHeld (fun hHeld2 => ?_)
  clear hK K hHeld
  have hHeld := hHeld2
  clear hHeld2
  refine wpAnyH_ready (rs := [9]) (by kernel_rfl) (by simp) (AllReadyH.cons rfl (fun K hK => ?_) AllReadyH.nil)
  go_simp
  go_wp2_with fail
  refine (c24.out _ hHeld.out).mono ?_
  rintro e w4 ⟨rfl, hb4, hbb4⟩
  have hH4 : Hid (Below W0.heap.size W0 w4) := Lib.hid hb4
  go_wp2_with fail
  refine hK.out _ _ hH4 (fun hHeld2 => ?_)
  clear hH4
  clear hK K hHeld
  have hHeld := hHeld2
  clear hHeld2
  refine wpAnyH_take (i := 10) (oi := ⟨some 17, _, _, _, _, _⟩) (v := .bool true) rfl (by kernel_rfl) (by kernel_rfl) (by kernel_rfl) (fun _ _ _ h => h) (Or.inl ⟨by rfl, fun w' hw' => ?_⟩) (by assumption) ?_
  · clear hHeld
    go_simp
  simp only [Act.put, List.setIfInBounds_toArray, List.set_cons_zero, List.set_cons_succ]
  refine wpAnyH_take (i := 11) (oi := ⟨some 18, _, _, _, _, _⟩) (v := .bool true) rfl (by kernel_rfl) (by kernel_rfl) (by kernel_rfl) (fun _ _ _ h => h) (Or.inl ⟨by rfl, fun w' hw' => ?_⟩) (by assumption) ?_
  · clear hHeld
    go_simp
  simp only [Act.put, List.setIfInBounds_toArray, List.set_cons_zero, List.set_cons_succ]
  refine wpAnyH_take (i := 12) (oi := ⟨some 19, _, _, _, _, _⟩) (v := .bool true) rfl (by kernel_rfl) (by kernel_rfl) (by kernel_rfl) (fun _ _ _ h => h) (Or.inl ⟨by rfl, fun w' hw' => ?_⟩) (by assumption) ?_
  · clear hHeld
    go_simp
  simp only [Act.put, List.setIfInBounds_toArray, List.set_cons_zero, List.set_cons_succ]
  refine wpAnyH_take (i := 13) (oi := ⟨some 20, _, _, _, _, _⟩) (v := .pointer (some ⟨T, 0, none⟩)) rfl (by kernel_rfl) (by kernel_rfl) (by kernel_rfl) (fun _ _ _ h => h) (Or.inl ⟨by rfl, fun w' hw' => ?_⟩) (by assumption) ?_
  · clear hHeld
    go_simp
  simp only [Act.put, List.setIfInBounds_toArray, List.set_cons_zero, List.set_cons_succ]
  refine wpAnyH_take (i := 15) (oi := ⟨some 22, _, _, _, _, _⟩) (v := .agg #[.slice p n c, .int .i64 (F : Nat), .int .i64 (s : Nat)]) rfl (by kernel_rfl) (by kernel_rfl) (by kernel_rfl) (fun _ _ _ h => h) (Or.inl ⟨by rfl, fun w' hw' => ?_⟩) (by assumption) ?_
  · obtain ⟨g0, g1, g2, g3⟩ := HS.out w' hw'.out
    clear hHeld
    go_simp
  simp only [Act.put, List.setIfInBounds_toArray, List.set_cons_zero, List.set_cons_succ]
  refine wpAnyH_ready (rs := [14]) (by kernel_rfl) (by simp) (AllReadyH.cons rfl (fun K hK => ?_) AllReadyH.nil)
  go_simp
  go_wp2_with fail
  refine (c16.out _ hHeld.out).mono ?_
  rintro e w5 ⟨rfl, rfl⟩
  go_wp2_with fail
  refine hK.out _ _ hHeld (fun hHeld2 => ?_)
  clear hK K hHeld
  have hHeld := hHeld2
  clear hHeld2
  refine wpAnyH_ready (rs := [16]) (by kernel_rfl) (by simp) (AllReadyH.cons rfl (fun K hK => ?_) AllReadyH.nil)
  go_simp
  go_wp2_with fail
  refine (c25.out _ hHeld.out).mono ?_
  rintro e w6 ⟨rfl, hb6, hbb6⟩
  have hH6 : Hid (Below W0.heap.size W0 w6) := Lib.hid hb6
  go_wp2_with fail
  refine hK.out _ _ hH6 (fun hHeld2 => ?_)
  clear hH6
  clear hK K hHeld
  have hHeld := hHeld2
  clear hHeld2
  refine wpAnyH_take (i := 17) (oi := ⟨some 24, _, _, _, _, _⟩) (v := .bool true) rfl (by kernel_rfl) (by kernel_rfl) (by kernel_rfl) (fun _ _ _ h => h) (Or.inl ⟨by rfl, fun w' hw' => ?_⟩) (by assumption) ?_
  · clear hHeld
    go_simp
  simp only [Act.put, List.setIfInBounds_toArray, List.set_cons_zero, List.set_cons_succ]
  refine wpAnyH_take (i := 18) (oi := ⟨some 25, _, _, _, _, _⟩) (v := .bool true) rfl (by kernel_rfl) (by kernel_rfl) (by kernel_rfl) (fun _ _ _ h => h) (Or.inl ⟨by rfl, fun w' hw' => ?_⟩) (by assumption) ?_
  · clear hHeld
    go_simp
  simp only [Act.put, List.setIfInBounds_toArray, List.set_cons_zero, List.set_cons_succ]
  refine wpAnyH_take (i := 19) (oi := ⟨some 26, _, _, _, _, _⟩) (v := .bool true) rfl (by kernel_rfl) (by kernel_rfl) (by kernel_rfl) (fun _ _ _ h => h) (Or.inl ⟨by rfl, fun w' hw' => ?_⟩) (by assumption) ?_
  · clear hHeld
    go_simp
  simp only [Act.put, List.setIfInBounds_toArray, List.set_cons_zero, List.set_cons_succ]
  refine wpAnyH_take (i := 20) (oi := ⟨some 27, _, _, _, _, _⟩) (v := .pointer (some ⟨T, 0, none⟩)) rfl (by kernel_rfl) (by kernel_rfl) (by kernel_rfl) (fun _ _ _ h => h) (Or.inl ⟨by rfl, fun w' hw' => ?_⟩) (by assumption) ?_
  · clear hHeld
    go_simp
  simp only [Act.put, List.setIfInBounds_toArray, List.set_cons_zero, List.set_cons_succ]
  refine wpAnyH_take (i := 21) (oi := ⟨some 28, _, _, _, _, _⟩) (v := .int .i64 x) rfl (by kernel_rfl) (by kernel_rfl) (by kernel_rfl) (fun _ _ _ h => h) (Or.inl ⟨by rfl, fun w' hw' => ?_⟩) (by assumption) ?_
  · clear hHeld
    go_simp
  simp only [Act.put, List.setIfInBounds_toArray, List.set_cons_zero, List.set_cons_succ]
  refine wpAnyH_take (i := 24) (oi := ⟨some 31, _, _, _, _, _⟩) (v := .agg #[.slice p n c, .int .i64 (F : Nat), .int .i64 (s : Nat)]) rfl (by kernel_rfl) (by kernel_rfl) (by kernel_rfl) (fun _ _ _ h => h) (Or.inl ⟨by rfl, fun w' hw' => ?_⟩) (by assumption) ?_
  · obtain ⟨g0, g1, g2, g3⟩ := HS.out w' hw'.out
    clear hHeld
    go_simp
  simp only [Act.put, List.setIfInBounds_toArray, List.set_cons_zero, List.set_cons_succ]
  refine wpAnyH_take (i := 25) (oi := ⟨some 32, _, _, _, _, _⟩) (v := .int .i64 x) rfl (by kernel_rfl) (by kernel_rfl) (by kernel_rfl) (fun _ _ _ h => h) (Or.inl ⟨by rfl, fun w' hw' => ?_⟩) (by assumption) ?_
  · clear hHeld
    go_simp
  simp only [Act.put, List.setIfInBounds_toArray, List.set_cons_zero, List.set_cons_succ]
  refine wpAnyH_ready (rs := [22]) (by kernel_rfl) (by simp) (AllReadyH.cons rfl (fun K hK => ?_) AllReadyH.nil)
  go_simp
  go_wp2_with fail
  refine (c13.out _ hHeld.out).mono ?_
  rintro e w7 ⟨p7, n7, c7, rfl, hcv7, hb7, hbb7⟩
  have hH7 : Hid (Below W0.heap.size W0 w7) := Lib.hid hb7
  have HCV7 := Lib.hid hcv7
  go_wp2_with fail
  refine hK.out _ _ hH7 (fun hHeld2 => ?_)
  clear hH7
  clear hcv7
  clear hK K hHeld
  have hHeld := hHeld2
  clear hHeld2
  refine wpAnyH_less (S2 := fun w' => Hid (Below W0.heap.size W0 w') ∧ Hid (Below w7.heap.size w7 w')) (fun _ h => h.1) _ _ _ _ ?_
  have hHeld2 : (fun w' => Hid (Below W0.heap.size W0 w') ∧ Hid (Below w7.heap.size w7 w')) w7 := ⟨hHeld, Lib.hid (Below.refl _ _)⟩
  clear hHeld
  have hHeld := hHeld2
  clear hHeld2
  refine wpAnyH_take (i := 23) (oi := ⟨some 30, _, _, _, _, _⟩) (v := .string sx) rfl (by kernel_rfl) (by kernel_rfl) (by kernel_rfl) (fun _ _ _ h => h) (Or.inl ⟨by rfl, fun w' hw' => ?_⟩) (by assumption) ?_
  · have g := HCV7.out w' hw'.2.out
    clear hHeld
    go_simp
  simp only [Act.put, List.setIfInBounds_toArray, List.set_cons_zero, List.set_cons_succ]
  refine wpAnyH_ready (rs := [26]) (by kernel_rfl) (by simp) (AllReadyH.cons rfl (fun K hK => ?_) AllReadyH.nil)
  go_simp
  go_wp2_with fail
  refine (c26.out _ hHeld.1.out).mono ?_
  rintro e w8 ⟨p8, n8, c8, rfl, hcv8, hb8, hbb8⟩
  have hH8 : Hid (Below W0.heap.size W0 w8) ∧ Hid (Below w7.heap.size w7 w8) := ⟨Lib.hid hb8, Lib.hid (hHeld.2.out.trans (hbb8.mono hHeld.2.out.size))⟩
  have HCV8 := Lib.hid hcv8
  go_wp2_with fail
  refine hK.out _ _ hH8 (fun hHeld2 => ?_)
  clear hH8
  clear hcv8
  clear hK K hHeld
  have hHeld := hHeld2
  clear hHeld2
  refine wpAnyH_less (S2 := fun w' => Hid (Below W0.heap.size W0 w') ∧ Hid (Below w7.heap.size w7 w') ∧ Hid (Below w8.heap.size w8 w')) (fun _ h => ⟨h.1, h.2.1⟩) _ _ _ _ ?_
  have hHeld2 : (fun w' => Hid (Below W0.heap.size W0 w') ∧ Hid (Below w7.heap.size w7 w') ∧ Hid (Below w8.heap.size w8 w')) w8 := ⟨hHeld.1, hHeld.2, Lib.hid (Below.refl _ _)⟩
  clear hHeld
  have hHeld := hHeld2
  clear hHeld2
  refine wpAnyH_take (i := 27) (oi := ⟨some 34, _, _, _, _, _⟩) (v := .string sx) rfl (by kernel_rfl) (by kernel_rfl) (by kernel_rfl) (fun _ _ _ h => h) (Or.inl ⟨by rfl, fun w' hw' => ?_⟩) (by assumption) ?_
  · have g := HCV8.out w' hw'.2.2.out
    clear hHeld
    go_simp
  simp only [Act.put, List.setIfInBounds_toArray, List.set_cons_zero, List.set_cons_succ]
  refine wpAnyH_take (i := 28) (oi := ⟨some 35, _, _, _, _, _⟩) (v := .bool true) rfl (by kernel_rfl) (by kernel_rfl) (by kernel_rfl) (fun _ _ _ h => h) (Or.inl ⟨by rfl, fun w' hw' => ?_⟩) (by assumption) ?_
  · clear hHeld
    go_simp
  simp only [Act.put, List.setIfInBounds_toArray, List.set_cons_zero, List.set_cons_succ]
  refine wpAnyH_take (i := 29) (oi := ⟨some 36, _, _, _, _, _⟩) (v := .bool true) rfl (by kernel_rfl) (by kernel_rfl) (by kernel_rfl) (fun _ _ _ h => h) (Or.inl ⟨by rfl, fun w' hw' => ?_⟩) (by assumption) ?_
  · clear hHeld
    go_simp
  simp only [Act.put, List.setIfInBounds_toArray, List.set_cons_zero, List.set_cons_succ]
  refine wpAnyH_take (i := 30) (oi := ⟨some 37, _, _, _, _, _⟩) (v := .bool true) rfl (by kernel_rfl) (by kernel_rfl) (by kernel_rfl) (fun _ _ _ h => h) (Or.inl ⟨by rfl, fun w' hw' => ?_⟩) (by assumption) ?_
  · clear hHeld
    go_simp
  simp only [Act.put, List.setIfInBounds_toArray, List.set_cons_zero, List.set_cons_succ]
  refine wpAnyH_take (i := 31) (oi := ⟨some 38, _, _, _, _, _⟩) (v := .pointer (some ⟨T, 0, none⟩)) rfl (by kernel_rfl) (by kernel_rfl) (by kernel_rfl) (fun _ _ _ h => h) (Or.inl ⟨by rfl, fun w' hw' => ?_⟩) (by assumption) ?_
  · clear hHeld
    go_simp
  simp only [Act.put, List.setIfInBounds_toArray, List.set_cons_zero, List.set_cons_succ]
  refine wpAnyH_take (i := 34) (oi := ⟨some 41, _, _, _, _, _⟩) (v := .pointer (some ⟨X, 0, none⟩)) rfl (by kernel_rfl) (by kernel_rfl) (by kernel_rfl) (fun _ _ _ h => h) (Or.inl ⟨by rfl, fun w' hw' => ?_⟩) (by assumption) ?_
  · clear hHeld
    go_simp
  simp only [Act.put, List.setIfInBounds_toArray, List.set_cons_zero, List.set_cons_succ]
  refine wpAnyH_take (i := 35) (oi := ⟨some 42, _, _, _, _, _⟩) (v := .slice p n c) rfl (by kernel_rfl) (by kernel_rfl) (by kernel_rfl) (fun _ _ _ h => h) (Or.inl ⟨by rfl, fun w' hw' => ?_⟩) (by assumption) ?_
  · obtain ⟨g0, g1, g2, g3⟩ := HS.out w' hw'.1.out
    clear hHeld
    go_simp
  simp only [Act.put, List.setIfInBounds_toArray, List.set_cons_zero, List.set_cons_succ]
  refine wpAnyH_take (i := 36) (oi := ⟨some 43, _, _, _, _, _⟩) (v := .string sb) rfl (by kernel_rfl) (by kernel_rfl) (by kernel_rfl) (fun _ _ _ h => h) (Or.inl ⟨by rfl, fun w' hw' => ?_⟩) (by assumption) ?_
  · obtain ⟨g0, g1, g2, g3⟩ := HS.out w' hw'.1.out
    clear hHeld
    go_simp
  simp only [Act.put, List.setIfInBounds_toArray, List.set_cons_zero, List.set_cons_succ]
  refine wpAnyH_ready (rs := [32]) (by kernel_rfl) (by simp) (AllReadyH.cons rfl (fun K hK => ?_) AllReadyH.nil)
  go_simp
  go_wp2_with fail
  refine (c13m.out _ hHeld.1.out).mono ?_
  rintro e w9 ⟨p9, n9, c9, rfl, hcv9, hb9, hbb9⟩
  have hH9 : Hid (Below W0.heap.size W0 w9) ∧ Hid (Below w7.heap.size w7 w9) ∧ Hid (Below w8.heap.size w8 w9) := ⟨Lib.hid hb9, Lib.hid (hHeld.2.1.out.trans (hbb9.mono hHeld.2.1.out.size)), Lib.hid (hHeld.2.2.out.trans (hbb9.mono hHeld.2.2.out.size))⟩
  have HCV9 := Lib.hid hcv9
  go_wp2_with fail
  refine hK.out _ _ hH9 (fun hHeld2 => ?_)
  clear hH9
  clear hcv9
  clear hK K hHeld
  have hHeld := hHeld2
  clear hHeld2
  refine wpAnyH_less (S2 := fun w' => Hid (Below W0.heap.size W0 w') ∧ Hid (Below w7.heap.size w7 w') ∧ Hid (Below w8.heap.size w8 w') ∧ Hid (Below w9.heap.size w9 w')) (fun _ h => ⟨h.1, h.2.1, h.2.2.1⟩) _ _ _ _ ?_
  have hHeld2 : (fun w' => Hid (Below W0.heap.size W0 w') ∧ Hid (Below w7.heap.size w7 w') ∧ Hid (Below w8.heap.size w8 w') ∧ Hid (Below w9.heap.size w9 w')) w9 := ⟨hHeld.1, hHeld.2.1, hHeld.2.2, Lib.hid (Below.refl _ _)⟩
  clear hHeld
  have hHeld := hHeld2
  clear hHeld2
  refine wpAnyH_take (i := 33) (oi := ⟨some 40, _, _, _, _, _⟩) (v := .string sb) rfl (by kernel_rfl) (by kernel_rfl) (by kernel_rfl) (fun _ _ _ h => h) (Or.inl ⟨by rfl, fun w' hw' => ?_⟩) (by assumption) ?_
  · have g := HCV9.out w' hw'.2.2.2.out
    clear hHeld
    go_simp
  simp only [Act.put, List.setIfInBounds_toArray, List.set_cons_zero, List.set_cons_succ]
  refine wpAnyH_take (i := 37) (oi := ⟨some 44, _, _, _, _, _⟩) (v := .bool true) rfl (by kernel_rfl) (by kernel_rfl) (by kernel_rfl) (fun _ _ _ h => h) (Or.inl ⟨by rfl, fun w' hw' => ?_⟩) (by assumption) ?_
  · clear hHeld
    go_simp
  simp only [Act.put, List.setIfInBounds_toArray, List.set_cons_zero, List.set_cons_succ]
  refine wpAnyH_take (i := 38) (oi := ⟨some 45, _, _, _, _, _⟩) (v := .bool true) rfl (by kernel_rfl) (by kernel_rfl) (by kernel_rfl) (fun _ _ _ h => h) (Or.inl ⟨by rfl, fun w' hw' => ?_⟩) (by assumption) ?_
  · clear hHeld
    go_simp
  simp only [Act.put, List.setIfInBounds_toArray, List.set_cons_zero, List.set_cons_succ]
  refine wpAnyH_take (i := 39) (oi := ⟨some 6, _, _, _, _, _⟩) (v := .bool true) rfl (by kernel_rfl) (by kernel_rfl) (by kernel_rfl) (fun _ _ _ h => h) (Or.inl ⟨by rfl, fun w' hw' => ?_⟩) (by assumption) ?_
  · clear hHeld
    go_simp
  simp only [Act.put, List.setIfInBounds_toArray, List.set_cons_zero, List.set_cons_succ]
  refine wpAnyH_done (by kernel_rfl) ?_ _
  go_wp2_with fail
  go_ret
  exact ⟨rfl, HX.out ▸ HB0.out.trans (hHeld.1.out.mono HB0.out.size)⟩
end
end Go.Proofs.Ytafpbgogjnbfpaa
