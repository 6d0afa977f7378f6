/- A program's steps: the document's way. -/
import Derived.Test.YtanndpmlpoplnaaDoorPgAt
import Derived.Test.YtanndpmlpoplnaaDoorPgGoodAll
namespace Go.Proofs.YtanndpmlpoplnaaDoor
open Go.RowKit Go.ChangeShapes Go.WideShapes
set_option linter.unusedVariables false
set_option linter.unusedSimpArgs false
set_option maxRecDepth 10000

/-- A step that a call has handed back, as a header. -/
def hsOf (t w : Int) (p : Option Addr) (n c : Nat) : Hs := (t, w, p, n, c)
theorem gives_none {W w : World} (hb : Below W.heap.size W w) : GivesS W [] (.returned (.slice none 0 0)) w := ⟨none, 0, [], rfl, ⟨SlG.empty _, trivial⟩, hb⟩
theorem steps_no {P : Pg} (h : goodP 4 4 P = false) : stepsP P = [] := by unfold stepsP; rw [h]; rfl
theorem steps_six (od po : Int) (L : List Ln) (T : List Tk) (M : List Ln) (sk fr to q : Int) (h : goodP 4 4 ⟨6, od, po, L, T, M, sk, fr, to, q⟩ = true) : stepsP ⟨6, od, po, L, T, M, sk, fr, to, q⟩ = [(6, fr, [(sk, q)]), (5, to, [(sk, q)])] := by unfold stepsP; rw [if_pos h]; rfl
set_option maxHeartbeats 4000000 in
theorem rsteps_six (od po : Int) (lp : Option Addr) (ln lcp : Nat) (tp : Option Addr) (tn tcp : Nat) (wp : Option Addr) (wn wcp : Nat) (sk fr to q : Int) (L : List Ln) (T : List Tk) (M : List Ln) (W : World) (hP : PgM W lp ln lcp L tp tn tcp T wp wn wcp M) (hok : Pgok ⟨6, od, po, L, T, M, sk, fr, to, q⟩) (h1 : ln ≤ 1000 ∧ tn ≤ 1000 ∧ wn ≤ 1000) (hg : goodP 4 4 ⟨6, od, po, L, T, M, sk, fr, to, q⟩ = true) :
    Calls Tryd.prog 15 #[.agg #[.int .u8 6, .int .u32 od, .int .u8 po, .slice lp ln lcp, .slice tp tn tcp, .slice wp wn wcp, .int .u8 sk, .int .u8 fr, .int .u8 to, .int .i64 q]] W (GivesS W (stepsP ⟨6, od, po, L, T, M, sk, fr, to, q⟩)) := by
  rw [steps_six od po L T M sk fr to q hg]
  have hb1 : Below W.heap.size W (W.alloc (.cells #[.int .u8 6, .int .u32 od, .int .u8 po, .slice lp ln lcp, .slice tp tn tcp, .slice wp wn wcp, .int .u8 sk, .int .u8 fr, .int .u8 to, .int .i64 q] 26)) := (Below.refl _ _).alloc (Nat.le_refl _) _
  have hgd := rgood_p 4 4 6 od po lp ln lcp tp tn tcp wp wn wcp sk fr to q L T M _ (hP.later hb1) hok h1
  rw [hg] at hgd
  have HB1 := Lib.hid hb1
  have HX := Lib.hid (alloc_block W (.cells #[.int .u8 6, .int .u32 od, .int .u8 po, .slice lp ln lcp, .slice tp tn tcp, .slice wp wn wcp, .int .u8 sk, .int .u8 fr, .int .u8 to, .int .i64 q] 26))
  clear hP hok h1 hg hb1
  go_enter Tryd.func15, Tryd.ntmps15
  go_wp2_with fail
  generalize W.alloc (.cells #[.int .u8 6, .int .u32 od, .int .u8 po, .slice lp ln lcp, .slice tp tn tcp, .slice wp wn wcp, .int .u8 sk, .int .u8 fr, .int .u8 to, .int .i64 q] 26) = W1 at *
  refine hgd.mono ?_
  rintro e w2 ⟨rfl, h2⟩
  have HB2 := Lib.hid h2
  have HC := Lib.hid fun w' (h : Below W1.heap.size W1 w') => prog_cells 6 od po lp ln lcp tp tn tcp wp wn wcp sk fr to q (block_later HX.out h)
  obtain ⟨a0, a1, a2, a3, a4, a5, a6, a7, a8, a9⟩ := HC.out w2 h2
  have hbd : Below W1.heap.size W1 w2.drew := h2.drew
  clear hgd h2
  go_wp2_with fail
  refine wp_region_held_drew (S := fun w' => Hid (Below W1.heap.size W1 w')) (by kernel_rfl) (Lib.hid hbd) (fun hHeld => ?_)
  clear hbd
  refine wpAnyH_take (i := 0) (oi := ⟨some 54, _, _, _, _, _⟩) (v := .slice none 0 0) rfl (by kernel_rfl) (by kernel_rfl) (by kernel_rfl) (fun _ _ _ h => h) (Or.inl ⟨by rfl, fun w' hw' => ?_⟩) (by assumption) ?_
  · clear hHeld
    go_simp
  simp only [Act.put, List.setIfInBounds_toArray, List.set_cons_zero, List.set_cons_succ]
  refine wpAnyH_take (i := 1) (oi := ⟨some 55, _, _, _, _, _⟩) (v := .pointer (some ⟨W.heap.size, 7, none⟩)) rfl (by kernel_rfl) (by kernel_rfl) (by kernel_rfl) (fun _ _ _ h => h) (Or.inl ⟨by rfl, fun w' hw' => ?_⟩) (by assumption) ?_
  · clear hHeld
    go_simp
  simp only [Act.put, List.setIfInBounds_toArray, List.set_cons_zero, List.set_cons_succ]
  refine wpAnyH_take (i := 2) (oi := ⟨some 56, _, _, _, _, _⟩) (v := .int .u8 fr) rfl (by kernel_rfl) (by kernel_rfl) (by kernel_rfl) (fun _ _ _ h => h) (Or.inl ⟨by rfl, fun w' hw' => ?_⟩) (by assumption) ?_
  · obtain ⟨g0, g1, g2, g3, g4, g5, g6, g7, g8, g9⟩ := HC.out w' hw'.out
    clear hHeld
    go_simp
  simp only [Act.put, List.setIfInBounds_toArray, List.set_cons_zero, List.set_cons_succ]
  refine wpAnyH_take (i := 3) (oi := ⟨some 57, _, _, _, _, _⟩) (v := .pointer (some ⟨W.heap.size, 6, none⟩)) rfl (by kernel_rfl) (by kernel_rfl) (by kernel_rfl) (fun _ _ _ h => h) (Or.inl ⟨by rfl, fun w' hw' => ?_⟩) (by assumption) ?_
  · clear hHeld
    go_simp
  simp only [Act.put, List.setIfInBounds_toArray, List.set_cons_zero, List.set_cons_succ]
  refine wpAnyH_take (i := 4) (oi := ⟨some 58, _, _, _, _, _⟩) (v := .int .u8 sk) rfl (by kernel_rfl) (by kernel_rfl) (by kernel_rfl) (fun _ _ _ h => h) (Or.inl ⟨by rfl, fun w' hw' => ?_⟩) (by assumption) ?_
  · obtain ⟨g0, g1, g2, g3, g4, g5, g6, g7, g8, g9⟩ := HC.out w' hw'.out
    clear hHeld
    go_simp
  simp only [Act.put, List.setIfInBounds_toArray, List.set_cons_zero, List.set_cons_succ]
  refine wpAnyH_take (i := 5) (oi := ⟨some 59, _, _, _, _, _⟩) (v := .pointer (some ⟨W.heap.size, 9, none⟩)) rfl (by kernel_rfl) (by kernel_rfl) (by kernel_rfl) (fun _ _ _ h => h) (Or.inl ⟨by rfl, fun w' hw' => ?_⟩) (by assumption) ?_
  · clear hHeld
    go_simp
  simp only [Act.put, List.setIfInBounds_toArray, List.set_cons_zero, List.set_cons_succ]
  refine wpAnyH_take (i := 6) (oi := ⟨some 60, _, _, _, _, _⟩) (v := .int .i64 q) rfl (by kernel_rfl) (by kernel_rfl) (by kernel_rfl) (fun _ _ _ h => h) (Or.inl ⟨by rfl, fun w' hw' => ?_⟩) (by assumption) ?_
  · obtain ⟨g0, g1, g2, g3, g4, g5, g6, g7, g8, g9⟩ := HC.out w' hw'.out
    clear hHeld
    go_simp
  simp only [Act.put, List.setIfInBounds_toArray, List.set_cons_zero, List.set_cons_succ]
  refine wpAnyH_take (i := 8) (oi := ⟨some 62, _, _, _, _, _⟩) (v := .pointer (some ⟨W.heap.size, 8, none⟩)) rfl (by kernel_rfl) (by kernel_rfl) (by kernel_rfl) (fun _ _ _ h => h) (Or.inl ⟨by rfl, fun w' hw' => ?_⟩) (by assumption) ?_
  · clear hHeld
    go_simp
  simp only [Act.put, List.setIfInBounds_toArray, List.set_cons_zero, List.set_cons_succ]
  refine wpAnyH_take (i := 9) (oi := ⟨some 63, _, _, _, _, _⟩) (v := .int .u8 to) rfl (by kernel_rfl) (by kernel_rfl) (by kernel_rfl) (fun _ _ _ h => h) (Or.inl ⟨by rfl, fun w' hw' => ?_⟩) (by assumption) ?_
  · obtain ⟨g0, g1, g2, g3, g4, g5, g6, g7, g8, g9⟩ := HC.out w' hw'.out
    clear hHeld
    go_simp
  simp only [Act.put, List.setIfInBounds_toArray, List.set_cons_zero, List.set_cons_succ]
  refine wpAnyH_take (i := 10) (oi := ⟨some 64, _, _, _, _, _⟩) (v := .pointer (some ⟨W.heap.size, 6, none⟩)) rfl (by kernel_rfl) (by kernel_rfl) (by kernel_rfl) (fun _ _ _ h => h) (Or.inl ⟨by rfl, fun w' hw' => ?_⟩) (by assumption) ?_
  · clear hHeld
    go_simp
  simp only [Act.put, List.setIfInBounds_toArray, List.set_cons_zero, List.set_cons_succ]
  refine wpAnyH_take (i := 11) (oi := ⟨some 65, _, _, _, _, _⟩) (v := .int .u8 sk) rfl (by kernel_rfl) (by kernel_rfl) (by kernel_rfl) (fun _ _ _ h => h) (Or.inl ⟨by rfl, fun w' hw' => ?_⟩) (by assumption) ?_
  · obtain ⟨g0, g1, g2, g3, g4, g5, g6, g7, g8, g9⟩ := HC.out w' hw'.out
    clear hHeld
    go_simp
  simp only [Act.put, List.setIfInBounds_toArray, List.set_cons_zero, List.set_cons_succ]
  refine wpAnyH_take (i := 12) (oi := ⟨some 66, _, _, _, _, _⟩) (v := .pointer (some ⟨W.heap.size, 9, none⟩)) rfl (by kernel_rfl) (by kernel_rfl) (by kernel_rfl) (fun _ _ _ h => h) (Or.inl ⟨by rfl, fun w' hw' => ?_⟩) (by assumption) ?_
  · clear hHeld
    go_simp
  simp only [Act.put, List.setIfInBounds_toArray, List.set_cons_zero, List.set_cons_succ]
  refine wpAnyH_take (i := 13) (oi := ⟨some 67, _, _, _, _, _⟩) (v := .int .i64 q) rfl (by kernel_rfl) (by kernel_rfl) (by kernel_rfl) (fun _ _ _ h => h) (Or.inl ⟨by rfl, fun w' hw' => ?_⟩) (by assumption) ?_
  · obtain ⟨g0, g1, g2, g3, g4, g5, g6, g7, g8, g9⟩ := HC.out w' hw'.out
    clear hHeld
    go_simp
  simp only [Act.put, List.setIfInBounds_toArray, List.set_cons_zero, List.set_cons_succ]
  clear a0 a1 a2 a3 a4 a5 a6 a7 a8 a9
  refine wpAnyH_ready (rs := [7]) (by kernel_rfl) (by simp) (AllReadyH.cons rfl (fun K hK => ?_) AllReadyH.nil)
  go_simp
  go_wp2_with fail
  refine (rone_st 6 fr sk q _).mono ?_
  rintro e x3 ⟨p3, c3, rfl, hl3, hb3, ha3⟩
  have hH3 : Hid (Below W1.heap.size W1 x3) := Lib.hid (hHeld.out.trans (hb3.mono hHeld.out.size))
  have HL3 := Lib.hid hl3
  have HAP3 := Lib.hid ha3
  have HBB3 := Lib.hid hb3
  clear hl3 hb3 ha3
  go_wp2_with fail
  refine hK.out _ _ hH3 (fun hHeld2 => ?_)
  clear hK K hHeld
  have hHeld := hHeld2
  clear hHeld2
  try simp only [Act.put, List.setIfInBounds_toArray, List.set_cons_zero, List.set_cons_succ]
  refine wpAnyH_ready (rs := [14]) (by kernel_rfl) (by simp) (AllReadyH.cons rfl (fun K hK => ?_) AllReadyH.nil)
  go_simp
  go_wp2_with fail
  refine (rone_st 5 to sk q _).mono ?_
  rintro e x4 ⟨p4, c4, rfl, hl4, hb4, ha4⟩
  have hH4 : Hid (Below W1.heap.size W1 x4) := Lib.hid (hHeld.out.trans (hb4.mono hHeld.out.size))
  have HL4 := Lib.hid hl4
  have HAP4 := Lib.hid ha4
  have HBB4 := Lib.hid hb4
  clear hl4 hb4 ha4
  go_wp2_with fail
  refine hK.out _ _ hH4 (fun hHeld2 => ?_)
  clear hK K hHeld
  have hHeld := hHeld2
  clear hHeld2
  try simp only [Act.put, List.setIfInBounds_toArray, List.set_cons_zero, List.set_cons_succ]
  refine wpAnyH_ready (rs := [15]) (by kernel_rfl) (by simp) (AllReadyH.cons rfl (fun K hK => ?_) AllReadyH.nil)
  go_simp
  have hba : Below x4.heap.size x4 (x4.alloc (.cells #[.int .u8 6, .int .u8 fr, .slice p3 1 c3, .int .u8 5, .int .u8 to, .slice p4 1 c4] 36)) := (Below.refl _ _).alloc (Nat.le_refl _) _
  have hT : TellsAll (x4.alloc (.cells #[.int .u8 6, .int .u8 fr, .slice p3 1 c3, .int .u8 5, .int .u8 to, .slice p4 1 c4] 36)) [hsOf 6 fr p3 1 c3, hsOf 5 to p4 1 c4] [(6, fr, [(sk, q)]), (5, to, [(sk, q)])] := ⟨⟨rfl, rfl, (HL3.out.later HBB4.out).later hba⟩, ⟨rfl, rfl, HL4.out.later hba⟩, trivial⟩
  have HT5 := Lib.hid hT
  have hF : FillS W1 (x4.alloc (.cells #[.int .u8 6, .int .u8 fr, .slice p3 1 c3, .int .u8 5, .int .u8 to, .slice p4 1 c4] 36)) (.slice none 0 0) [] [] 0 := (FillS.nil W1).later (hHeld.out.trans (hba.mono hHeld.out.size))
  have HF := Lib.hid hF
  have HNW := Lib.hid (step_news (H := [hsOf 6 fr p3 1 c3, hsOf 5 to p4 1 c4]) (alloc_block x4 (.cells #[.int .u8 6, .int .u8 fr, .slice p3 1 c3, .int .u8 5, .int .u8 to, .slice p4 1 c4] 36)) rfl)
  have hH5 : Hid (Below W1.heap.size W1 (x4.alloc (.cells #[.int .u8 6, .int .u8 fr, .slice p3 1 c3, .int .u8 5, .int .u8 to, .slice p4 1 c4] 36))) := Lib.hid (hHeld.out.trans (hba.mono hHeld.out.size))
  clear hT hF hba
  refine hK.out _ _ hH5 (fun hHeld2 => ?_)
  clear hH5
  clear hK K hHeld
  have hHeld := hHeld2
  clear hHeld2
  try simp only [Act.put, List.setIfInBounds_toArray, List.set_cons_zero, List.set_cons_succ]
  refine wpAnyH_ready (rs := [16]) (by kernel_rfl) (by simp) (AllReadyH.cons rfl (fun K hK => ?_) AllReadyH.nil)
  refine step_append_steps rfl (.tmp 54) (.tmp 69) rfl (.slice none 0 0) [] [] 0 (by simp [Act.eval]) HF.out x4.heap.size 2 [hsOf 6 fr p3 1 c3, hsOf 5 to p4 1 c4] [(6, fr, [(sk, q)]), (5, to, [(sk, q)])] (by simp [Act.eval]) rfl HNW.out HT5.out (fun h hh h0 ad he hb => by cases hb) (by omega) ?_
  intro p6 n6 c6 x6 h6
  have HF6 := Lib.hid h6
  have hH6 : Hid (Below W1.heap.size W1 x6) := Lib.hid h6.below
  clear h6
  refine hK.out _ _ hH6 (fun hHeld2 => ?_)
  clear hH6
  clear hK K hHeld
  have hHeld := hHeld2
  clear hHeld2
  try simp only [Act.put, List.setIfInBounds_toArray, List.set_cons_zero, List.set_cons_succ]
  refine wpAnyH_take (i := 17) (oi := ⟨some 2, _, _, _, _, _⟩) (v := .slice p6 n6 c6) rfl (by kernel_rfl) (by kernel_rfl) (by kernel_rfl) (fun _ _ _ h => h) (Or.inl ⟨by rfl, fun w' hw' => ?_⟩) (by assumption) ?_
  · clear hHeld
    go_simp
  simp only [Act.put, List.setIfInBounds_toArray, List.set_cons_zero, List.set_cons_succ]
  refine wpAnyH_done (by kernel_rfl) ?_ _
  clear hHeld
  go_wp2_with fail
  go_ret
  have hfin := HF6.out.gives
  rw [List.nil_append] at hfin
  have hfin2 := hfin.since HB1.out
  clear hfin
  first | exact hfin2 | (simp only [List.set_cons_zero, List.set_cons_succ]; exact hfin2) | (simp; exact hfin2)
end Go.Proofs.YtanndpmlpoplnaaDoor
