/- The steps of any program: the statement's walk. -/
import Derived.Test.YtanndpmlpoplnaaDoorPgWorks
import Derived.Test.YtanndpmlpoplnaaDoorPgFine
import Derived.Test.YtanndpmlpoplnaaDoorGrStepb
namespace Go.Proofs.YtanndpmlpoplnaaDoor
open Go.RowKit Go.ChangeShapes Go.WideShapes
set_option linter.unusedVariables false
set_option linter.unusedSimpArgs false
set_option maxRecDepth 10000

set_option maxHeartbeats 8000000 in
theorem law_steps (k od po : Int) (lp : Option Addr) (ln lcp : Nat) (tp : Option Addr) (tn tcp : Nat) (wp : Option Addr) (wn wcp : Nat) (sk fr to q : Int) (L : List Ln) (T : List Tk) (M : List Ln) (W : World) (hw : Words W) (hP : PgM W lp ln lcp L tp tn tcp T wp wn wcp M) (hok : Pgok ⟨k, od, po, L, T, M, sk, fr, to, q⟩) :
    Calls Tryd.prog 4 #[.agg #[.int .u8 k, .int .u32 od, .int .u8 po, .slice lp ln lcp, .slice tp tn tcp, .slice wp wn wcp, .int .u8 sk, .int .u8 fr, .int .u8 to, .int .i64 q]] W fun e w' => e = .returned (.bool true) ∧ Below W.heap.size W w' := by
  obtain ⟨W1, hW1, hbx, hb1⟩ : ∃ W1, W.alloc (.cells #[.int .u8 k, .int .u32 od, .int .u8 po, .slice lp ln lcp, .slice tp tn tcp, .slice wp wn wcp, .int .u8 sk, .int .u8 fr, .int .u8 to, .int .i64 q] 26) = W1 ∧ W1.heap[W.heap.size]? = some (.cells #[.int .u8 k, .int .u32 od, .int .u8 po, .slice lp ln lcp, .slice tp tn tcp, .slice wp wn wcp, .int .u8 sk, .int .u8 fr, .int .u8 to, .int .i64 q] 26 (0, 0)) ∧ Below W.heap.size W W1 := ⟨_, rfl, alloc_block W _, (Below.refl _ _).alloc (Nat.le_refl _) _⟩
  have HW1 := Lib.hid hW1
  have HB1 := Lib.hid hb1
  have HX1 := Lib.hid hbx
  have HP1 := Lib.hid (hP.later hb1)
  have HV1 := Lib.hid (hw.later hb1)
  have HOK := Lib.hid hok
  have HC := Lib.hid fun w' (h : Below W1.heap.size W1 w') => prog_cells k od po lp ln lcp tp tn tcp wp wn wcp sk fr to q (block_later HX1.out h)
  obtain ⟨a0, a1, a2, a3, a4, a5, a6, a7, a8, a9⟩ := HC.out W1 (Below.refl _ _)
  have hfew := few_p k od po lp ln lcp tp tn tcp wp wn wcp sk fr to q W1
  by_cases hf : ln ≤ 20 ∧ tn ≤ 30 ∧ wn ≤ 20
  case neg =>
    rw [show fewI ln tn wn = 0 from if_neg hf] at hfew
    clear hW1 hbx hb1 hP hok hw hf
    go_enter Tryd.func4, Tryd.ntmps4
    go_wp2_with fail
    rw [HW1.out]
    refine hfew.mono ?_
    rintro e w2 ⟨rfl, h2⟩
    have HB2 := Lib.hid h2
    clear hfew h2 a0 a1 a2 a3 a4 a5 a6 a7 a8 a9
    go_wp2_with fail
    refine (prog_works w2 (HV1.out.later HB2.out)).mono ?_
    rintro e w3 ⟨rfl, h3⟩
    have HB3 := Lib.hid (HB2.out.trans (h3.mono HB2.out.size))
    clear h3
    go_wp2_with fail
    go_ret
    exact ⟨rfl, HB1.out.trans (HB3.out.mono HB1.out.size)⟩
  rw [show fewI ln tn wn = 1 from if_pos hf] at hfew
  obtain ⟨hf1, hf2, hf3⟩ := hf
  clear hW1 hbx hb1 hP hok hw
  go_enter Tryd.func4, Tryd.ntmps4
  go_wp2_with fail
  rw [HW1.out]
  refine hfew.mono ?_
  rintro e w2 ⟨rfl, h2⟩
  have HB2 := Lib.hid h2
  clear hfew h2 a0 a1 a2 a3 a4 a5 a6 a7 a8 a9
  obtain ⟨a0, a1, a2, a3, a4, a5, a6, a7, a8, a9⟩ := HC.out w2 HB2.out
  have hbd : Below W1.heap.size W1 w2.drew := HB2.out.drew
  go_wp2_with fail
  refine wp_region_held_drew (S := fun w' => Hid (Below W1.heap.size W1 w')) (by kernel_rfl) (Lib.hid hbd) (fun hHeld => ?_)
  clear hbd
  refine wpAnyH_take (i := 0) (oi := ⟨some 10, _, _, _, _, _⟩) (v := (.agg #[.int .u8 k, .int .u32 od, .int .u8 po, .slice lp ln lcp, .slice tp tn tcp, .slice wp wn wcp, .int .u8 sk, .int .u8 fr, .int .u8 to, .int .i64 q])) rfl (by kernel_rfl) (by kernel_rfl) (by kernel_rfl) (fun _ _ _ h => h) (Or.inl ⟨by rfl, fun w' hw' => ?_⟩) (by assumption) ?_
  · obtain ⟨g0, g1, g2, g3, g4, g5, g6, g7, g8, g9⟩ := HC.out w' hw'.out
    clear hHeld
    go_simp
  simp only [Act.put, List.setIfInBounds_toArray, List.set_cons_zero, List.set_cons_succ]
  refine wpAnyH_take (i := 2) (oi := ⟨some 12, _, _, _, _, _⟩) (v := (.agg #[.int .u8 k, .int .u32 od, .int .u8 po, .slice lp ln lcp, .slice tp tn tcp, .slice wp wn wcp, .int .u8 sk, .int .u8 fr, .int .u8 to, .int .i64 q])) rfl (by kernel_rfl) (by kernel_rfl) (by kernel_rfl) (fun _ _ _ h => h) (Or.inl ⟨by rfl, fun w' hw' => ?_⟩) (by assumption) ?_
  · obtain ⟨g0, g1, g2, g3, g4, g5, g6, g7, g8, g9⟩ := HC.out w' hw'.out
    clear hHeld
    go_simp
  simp only [Act.put, List.setIfInBounds_toArray, List.set_cons_zero, List.set_cons_succ]
  clear a0 a1 a2 a3 a4 a5 a6 a7 a8 a9
  generalize w2.drew = Wd at *
  refine wpAnyH_ready (rs := [1]) (by kernel_rfl) (by simp) (AllReadyH.cons rfl (fun K hK => ?_) AllReadyH.nil)
  go_simp
  go_wp2_with fail
  refine (steps_p k od po lp ln lcp tp tn tcp wp wn wcp sk fr to q L T M _ (HV1.out.later hHeld.out) (HP1.out.later hHeld.out) HOK.out ⟨by omega, by omega, by omega⟩).mono ?_
  rintro e x5 ⟨p5, c5, H5, rfl, hl5, hb5⟩
  have hH5 : Hid (Below W1.heap.size W1 x5) := Lib.hid (hHeld.out.trans (hb5.mono hHeld.out.size))
  have HH5 := hH5
  have HL5 := Lib.hid hl5
  have HBB5 := Lib.hid hb5
  clear hl5 hb5
  go_wp2_with fail
  refine hK.out _ _ hH5 (fun hHeld2 => ?_)
  clear hH5
  clear hK K hHeld
  have hHeld := hHeld2
  clear hHeld2
  try simp only [Act.put, List.setIfInBounds_toArray, List.set_cons_zero, List.set_cons_succ]
  refine wpAnyH_ready (rs := [3]) (by kernel_rfl) (by simp) (AllReadyH.cons rfl (fun K hK => ?_) AllReadyH.nil)
  go_simp
  go_wp2_with fail
  refine (rsteps_p k od po lp ln lcp tp tn tcp wp wn wcp sk fr to q L T M _ (HP1.out.later hHeld.out) HOK.out ⟨by omega, by omega, by omega⟩).mono ?_
  rintro e x6 ⟨p6, c6, H6, rfl, hl6, hb6⟩
  have hH6 : Hid (Below W1.heap.size W1 x6) := Lib.hid (hHeld.out.trans (hb6.mono hHeld.out.size))
  have HH6 := hH6
  have HL6 := Lib.hid hl6
  have HBB6 := Lib.hid hb6
  clear hl6 hb6
  go_wp2_with fail
  refine hK.out _ _ hH6 (fun hHeld2 => ?_)
  clear hH6
  clear hK K hHeld
  have hHeld := hHeld2
  clear hHeld2
  try simp only [Act.put, List.setIfInBounds_toArray, List.set_cons_zero, List.set_cons_succ]
  have HLA := Lib.hid (HL5.out.later HBB6.out)
  have HFI := Lib.hid fun (h : goodP 4 4 ⟨k, od, po, L, T, M, sk, fr, to, q⟩ = true) => steps_fine h HOK.out
  have HNO : Hid (goodP 4 4 ⟨k, od, po, L, T, M, sk, fr, to, q⟩ = false → stepsP ⟨k, od, po, L, T, M, sk, fr, to, q⟩ = []) := Lib.hid fun h => steps_no h
  have hrg := rgood_p 4 4 k od po lp ln lcp tp tn tcp wp wn wcp sk fr to q L T M x6 (HP1.out.later HH6.out) HOK.out ⟨by omega, by omega, by omega⟩
  have HRG := Lib.hid hrg
  clear hrg
  generalize stepsP ⟨k, od, po, L, T, M, sk, fr, to, q⟩ = SS at *
  obtain ⟨no, hno⟩ : ∃ no, SS.length = no := ⟨_, rfl⟩
  have HNN := Lib.hid hno
  simp only [hno] at HLA HL6 ⊢
  clear hno HL5
  refine wpAnyH_take (i := 4) (oi := ⟨some 3, _, _, _, _, _⟩) (v := .slice p5 no c5) rfl (by kernel_rfl) (by kernel_rfl) (by kernel_rfl) (fun _ _ _ h => h) (Or.inl ⟨by rfl, fun w' hw' => ?_⟩) (by assumption) ?_
  · clear hHeld
    go_simp
  simp only [Act.put, List.setIfInBounds_toArray, List.set_cons_zero, List.set_cons_succ]
  refine wpAnyH_take (i := 5) (oi := ⟨some 4, _, _, _, _, _⟩) (v := .slice p6 no c6) rfl (by kernel_rfl) (by kernel_rfl) (by kernel_rfl) (fun _ _ _ h => h) (Or.inl ⟨by rfl, fun w' hw' => ?_⟩) (by assumption) ?_
  · clear hHeld
    go_simp
  simp only [Act.put, List.setIfInBounds_toArray, List.set_cons_zero, List.set_cons_succ]
  refine wpAnyH_done (by kernel_rfl) ?_ _
  clear hHeld
  have hcp1 := HLA.out.row.cap
  have hcp2 := HL6.out.row.cap
  have HFE : Hid (∀ j, j < no → FineS (SS.getD j (0, 0, []))) := Lib.hid fun j hj => by
    cases hg : goodP 4 4 ⟨k, od, po, L, T, M, sk, fr, to, q⟩ with
    | false =>
      have h1 := HNO.out hg
      have h2 := HNN.out
      rw [h1] at h2
      simp at h2
      omega
    | true =>
      refine (HFI.out hg).2 _ ?_
      rw [List.getD, List.getElem?_eq_getElem (by rw [HNN.out]; exact hj)]
      exact List.getElem_mem _
  obtain ⟨a0, a1, a2, a3, a4, a5, a6, a7, a8, a9⟩ := HC.out x6 HH6.out
  have HGG : Hid ((goodP 4 4 ⟨k, od, po, L, T, M, sk, fr, to, q⟩ = true ∧ 1 ≤ no ∧ no ≤ 5) ∨ (goodP 4 4 ⟨k, od, po, L, T, M, sk, fr, to, q⟩ = false ∧ no = 0)) := Lib.hid (by
    cases hg : goodP 4 4 ⟨k, od, po, L, T, M, sk, fr, to, q⟩ with
    | true => have := (HFI.out hg).1; rw [HNN.out] at this; exact .inl ⟨rfl, this.1, this.2⟩
    | false => refine .inr ⟨rfl, ?_⟩; have h2 := HNN.out; rw [HNO.out hg] at h2; simpa using h2.symm)
  clear HFI HNO
  go_wp2_with fail
  refine HRG.out.mono ?_
  rintro e x7 ⟨rfl, h7⟩
  have HB7 := Lib.hid h7
  clear h7 a0 a1 a2 a3 a4 a5 a6 a7 a8 a9
  obtain ⟨gv, hgv⟩ : ∃ gv, goodP 4 4 ⟨k, od, po, L, T, M, sk, fr, to, q⟩ = gv := ⟨_, rfl⟩
  have hcase := HGG.out
  rw [hgv] at hcase ⊢
  have d5 : decide ((5 : Int) < no) = false := decide_eq_false (by omega)
  have hno5 : no ≤ 5 := by omega
  have d0 : decide ((0 : Int) < no) = gv := by
    rcases hcase with ⟨rfl, h1, _⟩ | ⟨rfl, h1⟩
    · exact decide_eq_true (by omega)
    · exact decide_eq_false (by omega)
  have d0n : decide (0 < no) = gv := by rw [← d0]; exact decide_eq_decide.2 (by omega)
  have hgg : (gv != gv) = false := by simp
  have hgg2 : (!gv == gv) = false := by cases gv <;> rfl
  clear hcase hgv HGG HRG
  go_wp2_with fail
  go_loopw [5] (fun i wr => ∃ j : Nat, j ≤ no ∧ i = .int .i64 j ∧ Hid (Below x6.heap.size x6 wr)) (fun i _ => no - (Go.RowKit.intOf i).toNat)
  case atStart => exact ⟨0, Nat.zero_le _, rfl, HB7⟩
  case round =>
    obtain ⟨j, hj, rfl, HBr⟩ := hrel
    have HBX := Lib.hid (HH6.out.trans (HBr.out.mono HH6.out.size))
    have HVX := Lib.hid (HV1.out.later HBX.out)
    by_cases hlt : j < no
    case neg =>
      obtain rfl : no = j := by omega
      go_wp2_with fail
      refine (prog_works wr HVX.out).mono ?_
      rintro e w3 ⟨rfl, h3⟩
      have HB9 := Lib.hid (HBX.out.trans (h3.mono HBX.out.size))
      clear h3
      go_wp2_with fail
      go_ret
      exact ⟨rfl, HB1.out.trans (HB9.out.mono HB1.out.size)⟩
    have hlt' : (j : Int) < no := by omega
    have HSA := Lib.hid (HLA.out.later HBr.out)
    have HSB := Lib.hid (HL6.out.later HBr.out)
    obtain ⟨b5, o5, rfl, _, k0, k1, k2⟩ := step_cells HSA.out.row hlt
    obtain ⟨b6, o6, rfl, _, l0, l1, l2⟩ := step_cells HSB.out.row hlt
    obtain ⟨t1, t2, t3⟩ := HSA.out.tells.at j (by rw [HSA.out.row.len]; exact hlt)
    obtain ⟨u1, u2, u3⟩ := HSB.out.tells.at j (by rw [HSB.out.row.len]; exact hlt)
    have hfine := HFE.out j hlt
    rw [t1] at k0
    rw [t2] at k1
    rw [u1] at l0
    rw [u2] at l1
    generalize SS.getD j (0, 0, []) = sj at *
    obtain ⟨ts, rs, Lq⟩ := sj
    generalize H5.getD j hs0 = h5 at *
    generalize H6.getD j hs0 = h6 at *
    obtain ⟨y1, y2, ip, il, ic⟩ := h5
    obtain ⟨z1, z2, jp, jl, jc⟩ := h6
    dsimp only at *
    obtain ⟨f1, f2, f3, f4, f5⟩ := hfine
    dsimp only at f1 f2 f3 f4 f5
    have hl1 := t3.len
    have hl2 := u3.len
    have hsm := fun z : After wr => rsame_s ts rs ts rs ip jp il jl ic jc Lq Lq z.w (t3.later z.h) (u3.later z.h) (by omega) (by omega)
    have hgd := fun z : After wr => good_s 4 4 ts rs ip il ic Lq z.w (HVX.out.later z.h) (t3.later z.h) f4 f2 f3 (by omega)
    rw [f1] at hgd
    rw [show sameS ts rs ts rs Lq Lq = true by simp [sameS]] at hsm
    have e0 := fun z : After wr => cell_after z k0
    have e1 := fun z : After wr => cell_after z k1
    have e2 := fun z : After wr => cell_after z k2
    have e3 := fun z : After wr => cell_after z l0
    have e4 := fun z : After wr => cell_after z l1
    have e5 := fun z : After wr => cell_after z l2
    clear k0 k1 k2 l0 l1 l2 t1 t2 t3 u1 u2 u3 f1 f2 f3 f4 f5 hl1 hl2
    go_wp2_with fail
    refine wp_region_after (by kernel_rfl) (by kernel_rfl) ?_
    repeat (go_big_quiet_step (first | (go_at_call 16; with_reducible exact calls_after _ (hsm _)) | (go_at_call 17; with_reducible exact calls_after _ (hgd _))))
    refine wpQuiet_nil ?_
    rintro w3 ⟨⟨wq, h6⟩, hw3⟩
    subst hw3
    have HB9 := Lib.hid (HBr.out.trans (h6.mono HBr.out.size))
    clear h6 hsm hgd e0 e1 e2 e3 e4 e5
    go_wp2_with fail
    go_roundw
    case rel => exact ⟨j + 1, by omega, by go_num, HB9⟩
    case measure => simp [Go.RowKit.intOf]; omega
end Go.Proofs.YtanndpmlpoplnaaDoor
