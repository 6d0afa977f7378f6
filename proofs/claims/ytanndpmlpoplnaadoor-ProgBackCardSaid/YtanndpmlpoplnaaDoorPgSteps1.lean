/- A program's steps: the document's way: all kinds. -/
import Derived.Test.YtanndpmlpoplnaaDoorPgSteps5
namespace Go.Proofs.YtanndpmlpoplnaaDoor
open Go.RowKit Go.ChangeShapes Go.WideShapes
set_option linter.unusedVariables false
set_option linter.unusedSimpArgs false
set_option maxRecDepth 10000

def waresS (k : Int) (T : List Tk) (j : Nat) : List Stp := (List.range j).flatMap fun w : Nat => atS k (w : Int) T
theorem waresS_step (k : Int) (T : List Tk) (j : Nat) : waresS k T (j + 1) = waresS k T j ++ atS k (j : Int) T := by
  unfold waresS
  rw [List.range_succ, List.flatMap_append]
  simp
theorem steps_four {P : Pg} (h : goodP 4 4 P = true) (h5 : P.kind ≠ 5) (h6 : P.kind ≠ 6) : stepsP P = waresS P.kind P.takes 4 ++ owesS P.kind P.owes := by
  unfold stepsP
  rw [if_pos h, if_neg h5, if_neg h6]; rfl
set_option maxHeartbeats 8000000 in
theorem rsteps_four (k od po : Int) (lp : Option Addr) (ln lcp : Nat) (tp : Option Addr) (tn tcp : Nat) (wp : Option Addr) (wn wcp : Nat) (sk fr to q : Int) (L : List Ln) (T : List Tk) (M : List Ln) (W : World) (hP : PgM W lp ln lcp L tp tn tcp T wp wn wcp M) (hok : Pgok ⟨k, od, po, L, T, M, sk, fr, to, q⟩) (h1 : ln ≤ 1000 ∧ tn ≤ 1000 ∧ wn ≤ 1000) (hg : goodP 4 4 ⟨k, od, po, L, T, M, sk, fr, to, q⟩ = true) (h5 : k ≠ 5) (h6 : k ≠ 6) :
    Calls Tryd.prog 15 #[.agg #[.int .u8 k, .int .u32 od, .int .u8 po, .slice lp ln lcp, .slice tp tn tcp, .slice wp wn wcp, .int .u8 sk, .int .u8 fr, .int .u8 to, .int .i64 q]] W (GivesS W (stepsP ⟨k, od, po, L, T, M, sk, fr, to, q⟩)) := by
  rw [steps_four (P := ⟨k, od, po, L, T, M, sk, fr, to, q⟩) hg h5 h6]
  have hb1 : Below W.heap.size W (W.alloc (.cells #[.int .u8 k, .int .u32 od, .int .u8 po, .slice lp ln lcp, .slice tp tn tcp, .slice wp wn wcp, .int .u8 sk, .int .u8 fr, .int .u8 to, .int .i64 q] 26)) := (Below.refl _ _).alloc (Nat.le_refl _) _
  have hgd := rgood_p 4 4 k od po lp ln lcp tp tn tcp wp wn wcp sk fr to q L T M _ (hP.later hb1) hok h1
  rw [hg] at hgd
  have HB1 := Lib.hid hb1
  have HP := Lib.hid (hP.later hb1)
  have HX := Lib.hid (alloc_block W (.cells #[.int .u8 k, .int .u32 od, .int .u8 po, .slice lp ln lcp, .slice tp tn tcp, .slice wp wn wcp, .int .u8 sk, .int .u8 fr, .int .u8 to, .int .i64 q] 26))
  have HTOK := Lib.hid hok.takes
  have HLM := Lib.hid hP.o.len
  have H1 := Lib.hid h1
  have e5 : (k == 5) = false := by simpa using h5
  have e6 : (k == 6) = false := by simpa using h6
  dsimp only
  generalize hR : waresS k T 4 ++ owesS k M = R
  have HRR := Lib.hid hR
  clear hP hok h1 hg hb1 hR h5 h6
  go_enter Tryd.func15, Tryd.ntmps15
  go_wp2_with fail
  generalize W.alloc (.cells #[.int .u8 k, .int .u32 od, .int .u8 po, .slice lp ln lcp, .slice tp tn tcp, .slice wp wn wcp, .int .u8 sk, .int .u8 fr, .int .u8 to, .int .i64 q] 26) = W1 at *
  refine hgd.mono ?_
  rintro e w2 ⟨rfl, h2⟩
  have HB2 := Lib.hid h2
  have HC := Lib.hid fun w' (h : Below W1.heap.size W1 w') => prog_cells k od po lp ln lcp tp tn tcp wp wn wcp sk fr to q (block_later HX.out h)
  obtain ⟨a0, a1, a2, a3, a4, a5, a6, a7, a8, a9⟩ := HC.out w2 h2
  clear hgd h2
  go_wp2_with fail
  clear a0 a1 a2 a3 a4 a5 a6 a7 a8 a9
  go_loopw [3, 6] (fun v i wr => ∃ (j : Nat) (H : List Hs), j ≤ 4 ∧ i = .int .i64 j ∧ Hid (FillS W1 wr v H (waresS k T j) j)) (fun _ i _ => 4 - (Go.RowKit.intOf i).toNat)
  case atStart => exact ⟨0, [], Nat.zero_le _, rfl, Lib.hid ((FillS.nil W1).later HB2.out)⟩
  case round =>
    obtain ⟨j, H, hj, rfl, HF⟩ := hrel
    obtain ⟨a0, a1, a2, a3, a4, a5, a6, a7, a8, a9⟩ := HC.out wr HF.out.below
    by_cases hlt : j < 4
    case pos =>
      have hlt' : (j : Int) < 4 := by omega
      have hat := rat_st k (j : Int) tp tn tcp T wr (HP.out.later HF.out.below).t HTOK.out H1.out.2.1 (by omega)
      have hst := waresS_step k T j
      have hats : atS k (j : Int) T = if 1 ≤ (atP (j : Int) T).length then [(k, (j : Int), atP (j : Int) T)] else [] := rfl
      rw [hats] at hst
      generalize atP (j : Int) T = A at *
      have HS := Lib.hid hst
      clear hst hats
      go_wp2_with fail
      refine hat.mono ?_
      rintro e w3 ⟨p3, c3, rfl, hl3, hb3, ha3⟩
      have hbx : Below w3.heap.size w3 (w3.alloc (.cells #[.int .u8 k, .int .u8 (j : Int), .slice p3 A.length c3] 36)) := (Below.refl _ _).alloc (Nat.le_refl _) _
      have HFX := Lib.hid ((HF.out.later hb3).later hbx)
      have HLX := Lib.hid (hl3.later hbx)
      have HAP := Lib.hid ha3
      have HSZ := Lib.hid hb3.size
      have hbl := alloc_block w3 (.cells #[.int .u8 k, .int .u8 (j : Int), .slice p3 A.length c3] 36)
      obtain ⟨s0, s1, s2⟩ := cells_step hbl
      have HLA := Lib.hid (rfl : A.length = A.length)
      clear hat hl3 hb3 ha3 hbx hbl a0 a1 a2 a3 a4 a5 a6 a7 a8 a9
      generalize hm : A.length = m at *
      have HMA := Lib.hid hm
      clear hm HLA
      by_cases h0 : 1 ≤ m
      case neg =>
        have d1 : decide (0 < (m : Int)) = false := decide_eq_false (by omega)
        have d1n : decide (0 < m) = false := decide_eq_false (by omega)
        have HN : Hid (waresS k T (j + 1) = waresS k T j) := Lib.hid (by rw [HS.out, if_neg h0, List.append_nil])
        go_wp2_with fail
        go_roundw
        case rel => exact ⟨j + 1, H, by omega, by go_num, Lib.hid (by rw [HN.out]; exact HFX.out.mono (by omega))⟩
        case measure => simp [Go.RowKit.intOf]; omega
      have d1 : decide (0 < (m : Int)) = true := decide_eq_true (by omega)
      have d1n : decide (0 < m) = true := decide_eq_true (by omega)
      have HN : Hid (waresS k T (j + 1) = waresS k T j ++ [(k, (j : Int), A)]) := Lib.hid (by rw [HS.out, if_pos h0])
      have hba : Below (w3.alloc (.cells #[.int .u8 k, .int .u8 (j : Int), .slice p3 m c3] 36)).heap.size (w3.alloc (.cells #[.int .u8 k, .int .u8 (j : Int), .slice p3 m c3] 36)) ((w3.alloc (.cells #[.int .u8 k, .int .u8 (j : Int), .slice p3 m c3] 36)).alloc (.cells #[.int .u8 k, .int .u8 (j : Int), .slice p3 m c3] 36)) := (Below.refl _ _).alloc (Nat.le_refl _) _
      have HT := Lib.hid (show TellsAll ((w3.alloc (.cells #[.int .u8 k, .int .u8 (j : Int), .slice p3 m c3] 36)).alloc (.cells #[.int .u8 k, .int .u8 (j : Int), .slice p3 m c3] 36)) [hsOf k (j : Int) p3 m c3] [(k, (j : Int), A)] from ⟨⟨rfl, rfl, HLX.out.later hba⟩, trivial⟩)
      have HFA := Lib.hid (HFX.out.later hba)
      have hbl2 := alloc_block (w3.alloc (.cells #[.int .u8 k, .int .u8 (j : Int), .slice p3 m c3] 36)) (.cells #[.int .u8 k, .int .u8 (j : Int), .slice p3 m c3] 36)
      rw [World.size_alloc] at hbl2
      have HNW := Lib.hid (step_news (H := [hsOf k (j : Int) p3 m c3]) hbl2 rfl)
      have HAA : Hid (∀ h ∈ [hsOf k (j : Int) p3 m c3], 0 < h.2.2.2.1 → ∀ ad, h.2.2.1 = some ad → u3.ownBlock ≠ some ad.block) := Lib.hid fun h hh h0 ad he hb => by
        simp only [List.mem_cons, List.not_mem_nil, or_false] at hh
        subst hh
        have h8 := HAP.out ad he
        have h9 := (HF.out.own.lt _ hb).2
        omega
      clear hba hbl2
      go_wp2_with (at_builtin; refine wpList_append_steps rfl _ _ rfl u3 _ _ _ rfl HFA.out (w3.heap.size + 1) 1 [hsOf k (j : Int) p3 m c3] [(k, (j : Int), A)] rfl rfl HNW.out HT.out HAA.out (by omega) ?_; intro p5 n5 c5 w5 h5; have HF5 := Lib.hid h5; clear h5)
      clear s0 s1 s2
      go_wp2_with fail
      go_roundw
      case rel => exact ⟨j + 1, _, by omega, by go_num, Lib.hid (by rw [HN.out]; exact HF5.out.mono (by omega))⟩
      case measure => simp [Go.RowKit.intOf]; omega
    obtain rfl : j = 4 := by omega
    by_cases h0 : 1 ≤ wn
    case neg =>
      have d1 : decide (0 < (wn : Int)) = false := decide_eq_false (by omega)
      have d1n : decide (0 < wn) = false := decide_eq_false (by omega)
      have HOW : Hid (waresS k T 4 = R) := Lib.hid (by rw [← HRR.out]; unfold owesS; rw [if_neg (by rw [HLM.out]; omega), if_neg (by rw [HLM.out]; omega), List.append_nil])
      go_wp2_with fail
      go_ret
      have hfin := HF.out.gives.since HB1.out
      rw [← HOW.out]
      exact hfin
    have d1 : decide (0 < (wn : Int)) = true := decide_eq_true (by omega)
    have d1n : decide (0 < wn) = true := decide_eq_true (by omega)
    by_cases k1 : k = 1
    case pos =>
      subst k1
      have HOW : Hid (waresS 1 T 4 ++ [((7 : Int), (0 : Int), M)] = R) := Lib.hid (by rw [← HRR.out]; unfold owesS; rw [if_pos (by rw [HLM.out]; omega)])
      have hba : Below wr.heap.size wr (wr.alloc (.cells #[.int .u8 7, .int .u8 0, .slice wp wn wcp] 36)) := (Below.refl _ _).alloc (Nat.le_refl _) _
      have HT := Lib.hid (show TellsAll (wr.alloc (.cells #[.int .u8 7, .int .u8 0, .slice wp wn wcp] 36)) [hsOf 7 0 wp wn wcp] [(7, 0, M)] from ⟨⟨rfl, rfl, (HP.out.later (HF.out.below.trans (hba.mono HF.out.below.size))).o⟩, trivial⟩)
      have HFA := Lib.hid (HF.out.later hba)
      have HNW := Lib.hid (step_news (H := [hsOf 7 0 wp wn wcp]) (alloc_block wr (.cells #[.int .u8 7, .int .u8 0, .slice wp wn wcp] 36)) rfl)
      have HAA : Hid (∀ h ∈ [hsOf 7 0 wp wn wcp], 0 < h.2.2.2.1 → ∀ ad, h.2.2.1 = some ad → u3.ownBlock ≠ some ad.block) := Lib.hid fun h hh h0 ad he hb => by
          simp only [List.mem_cons, List.not_mem_nil, or_false] at hh
          subst hh
          obtain ⟨b, off, hp, hlt, _⟩ := HP.out.o.cell h0
          have he' : wp = some ad := he
          rw [hp] at he'
          cases he'
          have : W1.heap.size ≤ b := (HF.out.own.lt _ hb).1
          omega
      clear hba
      go_wp2_with (at_builtin; refine wpList_append_steps rfl _ _ rfl u3 _ _ _ rfl HFA.out wr.heap.size 1 [hsOf 7 0 wp wn wcp] [(7, 0, M)] rfl rfl HNW.out HT.out HAA.out (by omega) ?_; intro p4 n4 c4 w4 h4; have HF4 := Lib.hid h4; clear h4; obtain ⟨a0, a1, a2, a3, a4, a5, a6, a7, a8, a9⟩ := HC.out w4 HF4.out.below)
      (try go_wp2_with fail)
      go_ret
      have hfin := HF4.out.gives.since HB1.out
      rw [← HOW.out]
      exact hfin
    have e1 : (k == 1) = false := by simpa using k1
    by_cases k2 : k = 2
    case pos =>
      subst k2
      have HOW : Hid (waresS 2 T 4 ++ [((8 : Int), (0 : Int), M)] = R) := Lib.hid (by rw [← HRR.out]; unfold owesS; rw [if_neg (by omega), if_pos (by rw [HLM.out]; omega)])
      have hba : Below wr.heap.size wr (wr.alloc (.cells #[.int .u8 8, .int .u8 0, .slice wp wn wcp] 36)) := (Below.refl _ _).alloc (Nat.le_refl _) _
      have HT := Lib.hid (show TellsAll (wr.alloc (.cells #[.int .u8 8, .int .u8 0, .slice wp wn wcp] 36)) [hsOf 8 0 wp wn wcp] [(8, 0, M)] from ⟨⟨rfl, rfl, (HP.out.later (HF.out.below.trans (hba.mono HF.out.below.size))).o⟩, trivial⟩)
      have HFA := Lib.hid (HF.out.later hba)
      have HNW := Lib.hid (step_news (H := [hsOf 8 0 wp wn wcp]) (alloc_block wr (.cells #[.int .u8 8, .int .u8 0, .slice wp wn wcp] 36)) rfl)
      have HAA : Hid (∀ h ∈ [hsOf 8 0 wp wn wcp], 0 < h.2.2.2.1 → ∀ ad, h.2.2.1 = some ad → u3.ownBlock ≠ some ad.block) := Lib.hid fun h hh h0 ad he hb => by
          simp only [List.mem_cons, List.not_mem_nil, or_false] at hh
          subst hh
          obtain ⟨b, off, hp, hlt, _⟩ := HP.out.o.cell h0
          have he' : wp = some ad := he
          rw [hp] at he'
          cases he'
          have : W1.heap.size ≤ b := (HF.out.own.lt _ hb).1
          omega
      clear hba
      go_wp2_with (at_builtin; refine wpList_append_steps rfl _ _ rfl u3 _ _ _ rfl HFA.out wr.heap.size 1 [hsOf 8 0 wp wn wcp] [(8, 0, M)] rfl rfl HNW.out HT.out HAA.out (by omega) ?_; intro p4 n4 c4 w4 h4; have HF4 := Lib.hid h4; clear h4; obtain ⟨a0, a1, a2, a3, a4, a5, a6, a7, a8, a9⟩ := HC.out w4 HF4.out.below)
      (try go_wp2_with fail)
      go_ret
      have hfin := HF4.out.gives.since HB1.out
      rw [← HOW.out]
      exact hfin
    have e2 : (k == 2) = false := by simpa using k2
    have HOW : Hid (waresS k T 4 = R) := Lib.hid (by rw [← HRR.out]; unfold owesS; rw [if_neg (by omega), if_neg (by omega), List.append_nil])
    go_wp2_with fail
    go_ret
    have hfin := HF.out.gives.since HB1.out
    rw [← HOW.out]
    exact hfin
set_option maxHeartbeats 2000000 in
theorem rsteps_p (k od po : Int) (lp : Option Addr) (ln lcp : Nat) (tp : Option Addr) (tn tcp : Nat) (wp : Option Addr) (wn wcp : Nat) (sk fr to q : Int) (L : List Ln) (T : List Tk) (M : List Ln) (W : World) (hP : PgM W lp ln lcp L tp tn tcp T wp wn wcp M) (hok : Pgok ⟨k, od, po, L, T, M, sk, fr, to, q⟩) (h1 : ln ≤ 1000 ∧ tn ≤ 1000 ∧ wn ≤ 1000) :
    Calls Tryd.prog 15 #[.agg #[.int .u8 k, .int .u32 od, .int .u8 po, .slice lp ln lcp, .slice tp tn tcp, .slice wp wn wcp, .int .u8 sk, .int .u8 fr, .int .u8 to, .int .i64 q]] W (GivesS W (stepsP ⟨k, od, po, L, T, M, sk, fr, to, q⟩)) := by
  cases hg : goodP 4 4 ⟨k, od, po, L, T, M, sk, fr, to, q⟩ with
  | false =>
    rw [steps_no hg]
    have hb1 : Below W.heap.size W (W.alloc (.cells #[.int .u8 k, .int .u32 od, .int .u8 po, .slice lp ln lcp, .slice tp tn tcp, .slice wp wn wcp, .int .u8 sk, .int .u8 fr, .int .u8 to, .int .i64 q] 26)) := (Below.refl _ _).alloc (Nat.le_refl _) _
    have hgd := rgood_p 4 4 k od po lp ln lcp tp tn tcp wp wn wcp sk fr to q L T M _ (hP.later hb1) hok h1
    rw [hg] at hgd
    have HB1 := Lib.hid hb1
    clear hP hok h1 hg hb1
    go_enter Tryd.func15, Tryd.ntmps15
    go_wp2_with fail
    refine hgd.mono ?_
    rintro e w2 ⟨rfl, h2⟩
    have HB2 := Lib.hid (HB1.out.trans (h2.mono HB1.out.size))
    clear hgd h2
    go_wp2_with fail
    go_ret
    exact gives_none HB2.out
  | true =>
    by_cases h5 : k = 5
    · subst h5
      exact rsteps_five od po lp ln lcp tp tn tcp wp wn wcp sk fr to q L T M W hP hok h1 hg
    by_cases h6 : k = 6
    · subst h6
      exact rsteps_six od po lp ln lcp tp tn tcp wp wn wcp sk fr to q L T M W hP hok h1 hg
    exact rsteps_four k od po lp ln lcp tp tn tcp wp wn wcp sk fr to q L T M W hP hok h1 hg h5 h6
end Go.Proofs.YtanndpmlpoplnaaDoor
