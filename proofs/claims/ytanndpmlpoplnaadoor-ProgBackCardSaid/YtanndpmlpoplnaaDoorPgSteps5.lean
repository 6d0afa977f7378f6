/- The steps of a restock: the document's way. -/
import Derived.Test.YtanndpmlpoplnaaDoorPgSteps
namespace Go.Proofs.YtanndpmlpoplnaaDoor
open Go.RowKit Go.ChangeShapes Go.WideShapes
set_option linter.unusedVariables false
set_option linter.unusedSimpArgs false
set_option maxRecDepth 10000

theorem steps_five (od po : Int) (L : List Ln) (T : List Tk) (M : List Ln) (sk fr to q : Int) (h : goodP 4 4 ⟨5, od, po, L, T, M, sk, fr, to, q⟩ = true) : stepsP ⟨5, od, po, L, T, M, sk, fr, to, q⟩ = [((5 : Int), to, [(sk, q)])] ++ (if 1 ≤ T.length then [(1, to, [(sk, namedI T [] sk)]), (8, 0, [(sk, namedI T [] sk)])] else []) := by unfold stepsP; rw [if_pos h]; rfl
theorem five_ok (od po : Int) (L : List Ln) (T : List Tk) (M : List Ln) (sk fr to q : Int) (h : goodP 4 4 ⟨5, od, po, L, T, M, sk, fr, to, q⟩ = true) : okB (namedI T [] sk) = true := by
  have h2 : (sizedB 4 4 && askP 4 4 ⟨5, od, po, L, T, M, sk, fr, to, q⟩ && decide ((⟨5, od, po, L, T, M, sk, fr, to, q⟩ : Pg) = qofP ⟨5, od, po, L, T, M, sk, fr, to, q⟩)) = true := h
  rw [ask5] at h2
  unfold fillsB at h2
  simp only [Bool.and_eq_true] at h2
  exact h2.1.2.2.2.1.2
set_option maxHeartbeats 8000000 in
theorem rsteps_five (od po : Int) (lp : Option Addr) (ln lcp : Nat) (tp : Option Addr) (tn tcp : Nat) (wp : Option Addr) (wn wcp : Nat) (sk fr to q : Int) (L : List Ln) (T : List Tk) (M : List Ln) (W : World) (hP : PgM W lp ln lcp L tp tn tcp T wp wn wcp M) (hok : Pgok ⟨5, od, po, L, T, M, sk, fr, to, q⟩) (h1 : ln ≤ 1000 ∧ tn ≤ 1000 ∧ wn ≤ 1000) (hg : goodP 4 4 ⟨5, od, po, L, T, M, sk, fr, to, q⟩ = true) :
    Calls Tryd.prog 15 #[.agg #[.int .u8 5, .int .u32 od, .int .u8 po, .slice lp ln lcp, .slice tp tn tcp, .slice wp wn wcp, .int .u8 sk, .int .u8 fr, .int .u8 to, .int .i64 q]] W (GivesS W (stepsP ⟨5, od, po, L, T, M, sk, fr, to, q⟩)) := by
  rw [steps_five od po L T M sk fr to q hg]
  obtain ⟨R, hR⟩ : ∃ R, (if 1 ≤ T.length then [((1 : Int), to, [(sk, namedI T [] sk)]), (8, 0, [(sk, namedI T [] sk)])] else []) = R := ⟨_, rfl⟩
  rw [hR]
  have HRR := Lib.hid hR
  clear hR
  have hzz := five_ok od po L T M sk fr to q hg
  have hb1 : Below W.heap.size W (W.alloc (.cells #[.int .u8 5, .int .u32 od, .int .u8 po, .slice lp ln lcp, .slice tp tn tcp, .slice wp wn wcp, .int .u8 sk, .int .u8 fr, .int .u8 to, .int .i64 q] 26)) := (Below.refl _ _).alloc (Nat.le_refl _) _
  have hgd := rgood_p 4 4 5 od po lp ln lcp tp tn tcp wp wn wcp sk fr to q L T M _ (hP.later hb1) hok h1
  rw [hg] at hgd
  have HB1 := Lib.hid hb1
  have HP := Lib.hid (hP.later hb1)
  have HX := Lib.hid (alloc_block W (.cells #[.int .u8 5, .int .u32 od, .int .u8 po, .slice lp ln lcp, .slice tp tn tcp, .slice wp wn wcp, .int .u8 sk, .int .u8 fr, .int .u8 to, .int .i64 q] 26))
  have HTOK := Lib.hid hok.takes
  have HLT := Lib.hid hP.t.len
  have H1 := Lib.hid h1
  clear hP hok h1 hg hb1
  go_enter Tryd.func15, Tryd.ntmps15
  go_wp2_with fail
  generalize W.alloc (.cells #[.int .u8 5, .int .u32 od, .int .u8 po, .slice lp ln lcp, .slice tp tn tcp, .slice wp wn wcp, .int .u8 sk, .int .u8 fr, .int .u8 to, .int .i64 q] 26) = W1 at *
  refine hgd.mono ?_
  rintro e w2 ⟨rfl, h2⟩
  have HB2 := Lib.hid h2
  have HC := Lib.hid fun w' (h : Below W1.heap.size W1 w') => prog_cells 5 od po lp ln lcp tp tn tcp wp wn wcp sk fr to q (block_later HX.out h)
  obtain ⟨a0, a1, a2, a3, a4, a5, a6, a7, a8, a9⟩ := HC.out w2 h2
  clear hgd h2
  go_wp2_with fail
  refine (rone_st 5 to sk q _).mono ?_
  rintro e w3 ⟨p3, c3, rfl, hl3, hb3, ha3⟩
  have HB3 := Lib.hid (HB2.out.trans (hb3.mono HB2.out.size))
  have hba : Below w3.heap.size w3 (w3.alloc (.cells #[.int .u8 5, .int .u8 to, .slice p3 1 c3] 36)) := (Below.refl _ _).alloc (Nat.le_refl _) _
  have HT := Lib.hid (show TellsAll (w3.alloc (.cells #[.int .u8 5, .int .u8 to, .slice p3 1 c3] 36)) [hsOf 5 to p3 1 c3] [(5, to, [(sk, q)])] from ⟨⟨rfl, rfl, hl3.later hba⟩, trivial⟩)
  have HF := Lib.hid ((FillS.nil W1).later (HB3.out.trans (hba.mono HB3.out.size)))
  have HNW := Lib.hid (step_news (H := [hsOf 5 to p3 1 c3]) (alloc_block w3 (.cells #[.int .u8 5, .int .u8 to, .slice p3 1 c3] 36)) rfl)
  clear hl3 hb3 ha3 hba a0 a1 a2 a3 a4 a5 a6 a7 a8 a9
  simp only [List.length_cons, List.length_nil, Nat.zero_add]
  go_wp2_with (at_builtin; refine wpList_append_steps rfl _ _ rfl (.slice none 0 0) [] [] 0 rfl HF.out w3.heap.size 1 [hsOf 5 to p3 1 c3] [(5, to, [(sk, q)])] rfl rfl HNW.out HT.out (fun h hh h0 ad he hb => by cases hb) (by omega) ?_; intro p4 n4 c4 w4 h4; have HF4 := Lib.hid h4; clear h4; obtain ⟨a0, a1, a2, a3, a4, a5, a6, a7, a8, a9⟩ := HC.out w4 HF4.out.below)
  have hnm := rnamed_any tp tn tcp T none 0 0 [] sk w4 (HP.out.later HF4.out.below).t (SlG.empty _) HTOK.out (fun x hx => by cases hx) H1.out.2.1 (by omega)
  rw [val_in _ ((okB_iff _).1 hzz), hzz] at hnm
  have HZ := Lib.hid hzz
  clear hzz HF HT HNW
  refine hnm.mono ?_
  rintro e w5 ⟨rfl, h5⟩
  have HF5 := Lib.hid (HF4.out.later h5)
  clear hnm h5 a0 a1 a2 a3 a4 a5 a6 a7 a8 a9
  obtain ⟨a0, a1, a2, a3, a4, a5, a6, a7, a8, a9⟩ := HC.out w5 HF5.out.below
  by_cases ht : 1 ≤ tn
  case neg =>
    have d1 : decide (0 < (tn : Int)) = false := decide_eq_false (by omega)
    have d1n : decide (0 < tn) = false := decide_eq_false (by omega)
    have hR := HRR.out
    rw [if_neg (by rw [HLT.out]; exact ht)] at hR
    subst hR
    go_wp2_with fail
    go_ret
    have hfin := HF5.out.gives
    rw [List.nil_append] at hfin
    exact hfin.since HB1.out
  have d1 : decide (0 < (tn : Int)) = true := decide_eq_true (by omega)
  have d1n : decide (0 < tn) = true := decide_eq_true (by omega)
  have hR := HRR.out
  rw [if_pos (by rw [HLT.out]; exact ht)] at hR
  have HR2 := Lib.hid hR
  clear hR HRR
  have hbd : Below W1.heap.size W1 w5.drew := HF5.out.below.drew
  have HF6 := Lib.hid (HF5.out.later (show Below w5.heap.size w5 w5.drew from (Below.refl _ _).drew))
  generalize namedI T [] sk = z at *
  go_wp2_with fail
  refine wp_region_held_drew (S := fun w' => Hid (Below W1.heap.size W1 w')) (by kernel_rfl) (Lib.hid hbd) (fun hHeld => ?_)
  clear hbd
  refine wpAnyH_take (i := 0) (oi := ⟨some 37, _, _, _, _, _⟩) (v := .slice p4 n4 c4) rfl (by kernel_rfl) (by kernel_rfl) (by kernel_rfl) (fun _ _ _ h => h) (Or.inl ⟨by rfl, fun w' hw' => ?_⟩) (by assumption) ?_
  · clear hHeld
    go_simp
  simp only [Act.put, List.setIfInBounds_toArray, List.set_cons_zero, List.set_cons_succ]
  refine wpAnyH_take (i := 1) (oi := ⟨some 38, _, _, _, _, _⟩) (v := .pointer (some ⟨W.heap.size, 8, none⟩)) rfl (by kernel_rfl) (by kernel_rfl) (by kernel_rfl) (fun _ _ _ h => h) (Or.inl ⟨by rfl, fun w' hw' => ?_⟩) (by assumption) ?_
  · clear hHeld
    go_simp
  simp only [Act.put, List.setIfInBounds_toArray, List.set_cons_zero, List.set_cons_succ]
  refine wpAnyH_take (i := 2) (oi := ⟨some 39, _, _, _, _, _⟩) (v := .int .u8 to) rfl (by kernel_rfl) (by kernel_rfl) (by kernel_rfl) (fun _ _ _ h => h) (Or.inl ⟨by rfl, fun w' hw' => ?_⟩) (by assumption) ?_
  · obtain ⟨g0, g1, g2, g3, g4, g5, g6, g7, g8, g9⟩ := HC.out w' hw'.out
    clear hHeld
    go_simp
  simp only [Act.put, List.setIfInBounds_toArray, List.set_cons_zero, List.set_cons_succ]
  refine wpAnyH_take (i := 3) (oi := ⟨some 40, _, _, _, _, _⟩) (v := .pointer (some ⟨W.heap.size, 6, none⟩)) rfl (by kernel_rfl) (by kernel_rfl) (by kernel_rfl) (fun _ _ _ h => h) (Or.inl ⟨by rfl, fun w' hw' => ?_⟩) (by assumption) ?_
  · clear hHeld
    go_simp
  simp only [Act.put, List.setIfInBounds_toArray, List.set_cons_zero, List.set_cons_succ]
  refine wpAnyH_take (i := 4) (oi := ⟨some 41, _, _, _, _, _⟩) (v := .int .u8 sk) rfl (by kernel_rfl) (by kernel_rfl) (by kernel_rfl) (fun _ _ _ h => h) (Or.inl ⟨by rfl, fun w' hw' => ?_⟩) (by assumption) ?_
  · obtain ⟨g0, g1, g2, g3, g4, g5, g6, g7, g8, g9⟩ := HC.out w' hw'.out
    clear hHeld
    go_simp
  simp only [Act.put, List.setIfInBounds_toArray, List.set_cons_zero, List.set_cons_succ]
  refine wpAnyH_take (i := 5) (oi := ⟨some 42, _, _, _, _, _⟩) (v := .int .i64 z) rfl (by kernel_rfl) (by kernel_rfl) (by kernel_rfl) (fun _ _ _ h => h) (Or.inl ⟨by rfl, fun w' hw' => ?_⟩) (by assumption) ?_
  · clear hHeld
    go_simp
  simp only [Act.put, List.setIfInBounds_toArray, List.set_cons_zero, List.set_cons_succ]
  refine wpAnyH_take (i := 7) (oi := ⟨some 44, _, _, _, _, _⟩) (v := .pointer (some ⟨W.heap.size, 6, none⟩)) rfl (by kernel_rfl) (by kernel_rfl) (by kernel_rfl) (fun _ _ _ h => h) (Or.inl ⟨by rfl, fun w' hw' => ?_⟩) (by assumption) ?_
  · clear hHeld
    go_simp
  simp only [Act.put, List.setIfInBounds_toArray, List.set_cons_zero, List.set_cons_succ]
  refine wpAnyH_take (i := 8) (oi := ⟨some 45, _, _, _, _, _⟩) (v := .int .u8 sk) rfl (by kernel_rfl) (by kernel_rfl) (by kernel_rfl) (fun _ _ _ h => h) (Or.inl ⟨by rfl, fun w' hw' => ?_⟩) (by assumption) ?_
  · obtain ⟨g0, g1, g2, g3, g4, g5, g6, g7, g8, g9⟩ := HC.out w' hw'.out
    clear hHeld
    go_simp
  simp only [Act.put, List.setIfInBounds_toArray, List.set_cons_zero, List.set_cons_succ]
  refine wpAnyH_take (i := 9) (oi := ⟨some 46, _, _, _, _, _⟩) (v := .int .i64 z) rfl (by kernel_rfl) (by kernel_rfl) (by kernel_rfl) (fun _ _ _ h => h) (Or.inl ⟨by rfl, fun w' hw' => ?_⟩) (by assumption) ?_
  · clear hHeld
    go_simp
  simp only [Act.put, List.setIfInBounds_toArray, List.set_cons_zero, List.set_cons_succ]
  clear a0 a1 a2 a3 a4 a5 a6 a7 a8 a9
  generalize w5.drew = Wd at *
  refine wpAnyH_ready (rs := [6]) (by kernel_rfl) (by simp) (AllReadyH.cons rfl (fun K hK => ?_) AllReadyH.nil)
  go_simp
  go_wp2_with fail
  refine (rone_st 1 to sk z _).mono ?_
  rintro e x7 ⟨p7, c7, rfl, hl7, hb7, ha7⟩
  have hH7 : Hid (Below W1.heap.size W1 x7) := Lib.hid (hHeld.out.trans (hb7.mono hHeld.out.size))
  have HL7 := Lib.hid hl7
  have HAP7 := Lib.hid ha7
  have HBB7 := Lib.hid hb7
  clear hl7 hb7 ha7
  go_wp2_with fail
  refine hK.out _ _ hH7 (fun hHeld2 => ?_)
  clear hH7
  clear hK K hHeld
  have hHeld := hHeld2
  clear hHeld2
  try simp only [Act.put, List.setIfInBounds_toArray, List.set_cons_zero, List.set_cons_succ]
  have HF7 := Lib.hid (HF6.out.later HBB7.out)
  refine wpAnyH_ready (rs := [10]) (by kernel_rfl) (by simp) (AllReadyH.cons rfl (fun K hK => ?_) AllReadyH.nil)
  go_simp
  go_wp2_with fail
  refine (rone_st 8 0 sk z _).mono ?_
  rintro e x8 ⟨p8, c8, rfl, hl8, hb8, ha8⟩
  have hH8 : Hid (Below W1.heap.size W1 x8) := Lib.hid (hHeld.out.trans (hb8.mono hHeld.out.size))
  have HL8 := Lib.hid hl8
  have HAP8 := Lib.hid ha8
  have HBB8 := Lib.hid hb8
  clear hl8 hb8 ha8
  go_wp2_with fail
  refine hK.out _ _ hH8 (fun hHeld2 => ?_)
  clear hH8
  clear hK K hHeld
  have hHeld := hHeld2
  clear hHeld2
  try simp only [Act.put, List.setIfInBounds_toArray, List.set_cons_zero, List.set_cons_succ]
  have HF8 := Lib.hid (HF7.out.later HBB8.out)
  refine wpAnyH_ready (rs := [11]) (by kernel_rfl) (by simp) (AllReadyH.cons rfl (fun K hK => ?_) AllReadyH.nil)
  go_simp
  have hba : Below x8.heap.size x8 (x8.alloc (.cells #[.int .u8 1, .int .u8 to, .slice p7 1 c7, .int .u8 8, .int .u8 0, .slice p8 1 c8] 36)) := (Below.refl _ _).alloc (Nat.le_refl _) _
  have hT : TellsAll (x8.alloc (.cells #[.int .u8 1, .int .u8 to, .slice p7 1 c7, .int .u8 8, .int .u8 0, .slice p8 1 c8] 36)) [hsOf 1 to p7 1 c7, hsOf 8 0 p8 1 c8] [(1, to, [(sk, z)]), (8, 0, [(sk, z)])] := ⟨⟨rfl, rfl, (HL7.out.later HBB8.out).later hba⟩, ⟨rfl, rfl, HL8.out.later hba⟩, trivial⟩
  have HT9 := Lib.hid hT
  have HF9 := Lib.hid (HF8.out.later hba)
  have HNW := Lib.hid (step_news (H := [hsOf 1 to p7 1 c7, hsOf 8 0 p8 1 c8]) (alloc_block x8 (.cells #[.int .u8 1, .int .u8 to, .slice p7 1 c7, .int .u8 8, .int .u8 0, .slice p8 1 c8] 36)) rfl)
  have hH9 : Hid (Below W1.heap.size W1 (x8.alloc (.cells #[.int .u8 1, .int .u8 to, .slice p7 1 c7, .int .u8 8, .int .u8 0, .slice p8 1 c8] 36))) := Lib.hid (hHeld.out.trans (hba.mono hHeld.out.size))
  have HAA : Hid (∀ h ∈ [hsOf 1 to p7 1 c7, hsOf 8 0 p8 1 c8], 0 < h.2.2.2.1 → ∀ ad, h.2.2.1 = some ad → (Value.slice p4 n4 c4).ownBlock ≠ some ad.block) := Lib.hid fun h hh h0 ad he hb => by
    have hlt := (HF6.out.own.lt ad.block hb).2
    simp only [List.mem_cons, List.not_mem_nil, or_false] at hh
    rcases hh with rfl | rfl
    · have := HAP7.out ad he
      omega
    · have := HAP8.out ad he
      have := HBB7.out.size
      omega
  clear hT hba
  refine hK.out _ _ hH9 (fun hHeld2 => ?_)
  clear hH9
  clear hK K hHeld
  have hHeld := hHeld2
  clear hHeld2
  try simp only [Act.put, List.setIfInBounds_toArray, List.set_cons_zero, List.set_cons_succ]
  refine wpAnyH_ready (rs := [12]) (by kernel_rfl) (by simp) (AllReadyH.cons rfl (fun K hK => ?_) AllReadyH.nil)
  refine step_append_steps rfl (.tmp 37) (.tmp 48) rfl (.slice p4 n4 c4) _ _ _ (by simp [Act.eval]) HF9.out x8.heap.size 2 [hsOf 1 to p7 1 c7, hsOf 8 0 p8 1 c8] [(1, to, [(sk, z)]), (8, 0, [(sk, z)])] (by simp [Act.eval]) rfl HNW.out HT9.out HAA.out (by omega) ?_
  intro p6 n6 c6 x6 h6
  have HFA := Lib.hid h6
  have hH6 : Hid (Below W1.heap.size W1 x6) := Lib.hid h6.below
  clear h6
  refine hK.out _ _ hH6 (fun hHeld2 => ?_)
  clear hH6
  clear hK K hHeld
  have hHeld := hHeld2
  clear hHeld2
  try simp only [Act.put, List.setIfInBounds_toArray, List.set_cons_zero, List.set_cons_succ]
  refine wpAnyH_take (i := 13) (oi := ⟨some 3, _, _, _, _, _⟩) (v := .slice p6 n6 c6) rfl (by kernel_rfl) (by kernel_rfl) (by kernel_rfl) (fun _ _ _ h => h) (Or.inl ⟨by rfl, fun w' hw' => ?_⟩) (by assumption) ?_
  · clear hHeld
    go_simp
  simp only [Act.put, List.setIfInBounds_toArray, List.set_cons_zero, List.set_cons_succ]
  refine wpAnyH_done (by kernel_rfl) ?_ _
  clear hHeld
  go_wp2_with fail
  go_ret
  have hfin := HFA.out.gives
  rw [List.nil_append] at hfin
  rw [HR2.out] at hfin
  have hfin2 := hfin.since HB1.out
  clear hfin
  first | exact hfin2 | (simp only [List.set_cons_zero, List.set_cons_succ]; exact hfin2) | (simp; exact hfin2)
end Go.Proofs.YtanndpmlpoplnaaDoor
