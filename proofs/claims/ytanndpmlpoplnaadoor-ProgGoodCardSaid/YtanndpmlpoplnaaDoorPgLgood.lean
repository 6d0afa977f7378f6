/- Which orders a program is about: the program's way. Whether any program may be: the statement's walk. -/
import Derived.Test.YtanndpmlpoplnaaDoorPgWorks
import Derived.Test.YtanndpmlpoplnaaDoorGrProgb
namespace Go.Proofs.YtanndpmlpoplnaaDoor
open Go.RowKit Go.ChangeShapes Go.WideShapes
set_option linter.unusedVariables false
set_option linter.unusedSimpArgs false
set_option maxRecDepth 10000

set_option maxHeartbeats 2000000 in
theorem orders_any (k od po : Int) (lp : Option Addr) (ln lcp : Nat) (tp : Option Addr) (tn tcp : Nat) (wp : Option Addr) (wn wcp : Nat) (sk fr to q : Int) (L : List Ln) (T : List Tk) (M : List Ln) (W : World) (hT : TKL W tp tn tcp T) (hn : tn ≤ 1000) :
    Calls Tryd.prog 10 #[.agg #[.int .u8 k, .int .u32 od, .int .u8 po, .slice lp ln lcp, .slice tp tn tcp, .slice wp wn wcp, .int .u8 sk, .int .u8 fr, .int .u8 to, .int .i64 q]] W (GivesU W (ordersP ⟨k, od, po, L, T, M, sk, fr, to, q⟩)) := by
  have hb1 : Below W.heap.size W (W.alloc (.cells #[.int .u8 k, .int .u32 od, .int .u8 po, .slice lp ln lcp, .slice tp tn tcp, .slice wp wn wcp, .int .u8 sk, .int .u8 fr, .int .u8 to, .int .i64 q] 26)) := (Below.refl _ _).alloc (Nat.le_refl _) _
  have HB1 := Lib.hid hb1
  have HT := Lib.hid (hT.later hb1)
  have HX := Lib.hid (alloc_block W (.cells #[.int .u8 k, .int .u32 od, .int .u8 po, .slice lp ln lcp, .slice tp tn tcp, .slice wp wn wcp, .int .u8 sk, .int .u8 fr, .int .u8 to, .int .i64 q] 26))
  by_cases h0 : od = 0
  case neg =>
    have hd : (od != 0) = true := by simpa using h0
    have ho : ordersP ⟨k, od, po, L, T, M, sk, fr, to, q⟩ = [od] := if_pos h0
    rw [ho]
    have HG := Lib.hid (gives_u od hb1)
    clear h0 ho hb1 hT
    go_enter Tryd.func10, Tryd.ntmps10
    go_wp2_with fail
    go_ret
    have := HG.out
    simp only [World.size_alloc] at this
    exact this
  have hd : (od != 0) = false := by simpa using h0
  have ho : ordersP ⟨k, od, po, L, T, M, sk, fr, to, q⟩ = T.map (·.1) := if_neg (by simpa using h0)
  rw [ho]
  have HST := Lib.hid fun j (hj : j < tn) => orders_take T j (by rw [hT.len]; exact hj)
  have HET : Hid ((T.take tn).map (·.1) = T.map (·.1)) := Lib.hid (by rw [← hT.len, List.take_length])
  have hcap := hT.cap
  clear h0 ho hb1 hT
  go_enter Tryd.func10, Tryd.ntmps10
  go_wp2_with fail
  generalize W.alloc (.cells #[.int .u8 k, .int .u32 od, .int .u8 po, .slice lp ln lcp, .slice tp tn tcp, .slice wp wn wcp, .int .u8 sk, .int .u8 fr, .int .u8 to, .int .i64 q] 26) = W1 at *
  go_loopw [3, 15] (fun v i wr => ∃ j : Nat, j ≤ tn ∧ i = .int .i64 j ∧ Hid (FillU W1 wr v ((T.take j).map (·.1)) j)) (fun _ i _ => tn - (Go.RowKit.intOf i).toNat)
  case atStart => exact ⟨0, Nat.zero_le _, rfl, Lib.hid (by simpa using FillG.nil W1)⟩
  case round =>
    obtain ⟨j, hj, rfl, HF⟩ := hrel
    obtain ⟨_, _, _, _, e4, _, _, _, _, _⟩ := prog_cells k od po lp ln lcp tp tn tcp wp wn wcp sk fr to q (block_later HX.out HF.out.below)
    by_cases hlt : j < tn
    · have hlt' : (j : Int) < tn := by omega
      obtain ⟨b, off, rfl, _, k0, k1, k2, k3⟩ := take_cells (HT.out.later HF.out.below) hlt
      have hst := HST.out j hlt
      generalize T.getD j tk0 = x at *
      obtain ⟨o, a, r, z⟩ := x
      dsimp only at k0 k1 k2 k3 hst
      have HS := Lib.hid hst
      have hba : Below wr.heap.size wr (wr.alloc (.cells #[.int .u32 o, .int .u8 a, .int .u8 r, .int .i64 z] 52)) := (Below.refl _ _).alloc (Nat.le_refl _) _
      have HFA := Lib.hid (HF.out.later hba)
      have hsz := HF.out.below.size
      have hmost := HF.out.most
      have hun := u_news (wr.alloc (.cells #[.int .u32 o, .int .u8 a, .int .u8 r, .int .i64 z] 52)) o
      rw [World.size_alloc] at hun
      have HUN := Lib.hid hun
      clear hst hba hun
      go_wp2_with (at_builtin; refine wpList_append_u rfl _ _ rfl W1.heap.size _ ((T.take j).map (·.1)).length ((T.take j).map (·.1)) rfl (HFA.out.own.alloc _) (by omega) o (wr.heap.size + 1) rfl HUN.out (by simp; omega) ?_; intro v2 w2 h1 h2)
      have HF2 := Lib.hid (HFA.out.step _ h1 h2)
      clear h1 h2 hsz hmost
      go_wp2_with fail
      go_roundw
      case rel => exact ⟨j + 1, by omega, by go_num, Lib.hid (by rw [HS.out]; exact HF2.out)⟩
      case measure => simp [Go.RowKit.intOf]; omega
    · obtain rfl : j = tn := by omega
      go_wp2_with fail
      go_ret
      have := HF.out.gives (d := 0) uc_len (by decide)
      rw [HET.out] at this
      exact this.since HB1.out
theorem ul_cell {w : World} {p : Option Addr} {n c : Nat} {L : List Int} (h : UL w p n c L) {j : Nat} (hj : j < n) : ∃ b off, p = some ⟨b, off, none⟩ ∧ w.cell? ⟨b, off + j, none⟩ = some (.int .u32 (L.getD j 0)) := by
  obtain ⟨b, off, rfl, _, hc⟩ := h.cell (by omega)
  have := hc j hj 0 _ rfl
  exact ⟨b, off, rfl, by simpa using this⟩
set_option maxHeartbeats 8000000 in
theorem law_good (s w : Int) (k od po : Int) (lp : Option Addr) (ln lcp : Nat) (tp : Option Addr) (tn tcp : Nat) (wp : Option Addr) (wn wcp : Nat) (sk fr to q : Int) (L : List Ln) (T : List Tk) (M : List Ln) (W : World) (hw : Words W) (hP : PgM W lp ln lcp L tp tn tcp T wp wn wcp M) (hok : Pgok ⟨k, od, po, L, T, M, sk, fr, to, q⟩) :
    Calls Tryd.prog 3 #[.int .i64 s, .int .i64 w, .agg #[.int .u8 k, .int .u32 od, .int .u8 po, .slice lp ln lcp, .slice tp tn tcp, .slice wp wn wcp, .int .u8 sk, .int .u8 fr, .int .u8 to, .int .i64 q]] W fun e w' => e = .returned (.bool true) ∧ Below W.heap.size W w' := by
  obtain ⟨W1, hW1, hbx, hb1⟩ : ∃ W1, W.alloc (.cells #[.int .u8 k, .int .u32 od, .int .u8 po, .slice lp ln lcp, .slice tp tn tcp, .slice wp wn wcp, .int .u8 sk, .int .u8 fr, .int .u8 to, .int .i64 q] 26) = W1 ∧ W1.heap[W.heap.size]? = some (.cells #[.int .u8 k, .int .u32 od, .int .u8 po, .slice lp ln lcp, .slice tp tn tcp, .slice wp wn wcp, .int .u8 sk, .int .u8 fr, .int .u8 to, .int .i64 q] 26 (0, 0)) ∧ Below W.heap.size W W1 := ⟨_, rfl, alloc_block W _, (Below.refl _ _).alloc (Nat.le_refl _) _⟩
  have HW1 := Lib.hid hW1
  have HB1 := Lib.hid hb1
  have HX1 := Lib.hid hbx
  have HP1 := Lib.hid (hP.later hb1)
  have HV1 := Lib.hid (hw.later hb1)
  have HOK := Lib.hid hok
  have HC := Lib.hid fun w' (h : Below W1.heap.size W1 w') => prog_cells k od po lp ln lcp tp tn tcp wp wn wcp sk fr to q (block_later HX1.out h)
  obtain ⟨a0, a1, a2, a3, a4, a5, a6, a7, a8, a9⟩ := HC.out W1 (Below.refl _ _)
  have hfew := few_p k od po lp ln lcp tp tn tcp wp wn wcp sk fr to q W1
  by_cases hf : ln ≤ 20 ∧ tn ≤ 30 ∧ wn ≤ 20
  case neg =>
    rw [show fewI ln tn wn = 0 from if_neg hf] at hfew
    clear hW1 hbx hb1 hP hok hw hf
    go_enter Tryd.func3, Tryd.ntmps3
    go_wp2_with fail
    rw [HW1.out]
    refine hfew.mono ?_
    rintro e w2 ⟨rfl, h2⟩
    have HB2 := Lib.hid h2
    clear hfew h2 a0 a1 a2 a3 a4 a5 a6 a7 a8 a9
    go_wp2_with fail
    refine (prog_works w2 (HV1.out.later HB2.out)).mono ?_
    rintro e w3 ⟨rfl, h3⟩
    have HB3 := Lib.hid (HB2.out.trans (h3.mono HB2.out.size))
    clear h3
    go_wp2_with fail
    go_ret
    exact ⟨rfl, HB1.out.trans (HB3.out.mono HB1.out.size)⟩
  rw [show fewI ln tn wn = 1 from if_pos hf] at hfew
  obtain ⟨hf1, hf2, hf3⟩ := hf
  clear hW1 hbx hb1 hP hok hw
  go_enter Tryd.func3, Tryd.ntmps3
  go_wp2_with fail
  rw [HW1.out]
  refine hfew.mono ?_
  rintro e w2 ⟨rfl, h2⟩
  have HB2 := Lib.hid h2
  clear hfew h2 a0 a1 a2 a3 a4 a5 a6 a7 a8 a9
  obtain ⟨a0, a1, a2, a3, a4, a5, a6, a7, a8, a9⟩ := HC.out w2 HB2.out
  have hbd : Below W1.heap.size W1 w2.drew := HB2.out.drew
  go_wp2_with fail
  refine wp_region_held_drew (S := fun w' => Hid (Below W1.heap.size W1 w')) (by kernel_rfl) (Lib.hid hbd) (fun hHeld => ?_)
  clear hbd
  refine wpAnyH_take (i := 0) (oi := ⟨some 14, _, _, _, _, _⟩) (v := (.agg #[.int .u8 k, .int .u32 od, .int .u8 po, .slice lp ln lcp, .slice tp tn tcp, .slice wp wn wcp, .int .u8 sk, .int .u8 fr, .int .u8 to, .int .i64 q])) rfl (by kernel_rfl) (by kernel_rfl) (by kernel_rfl) (fun _ _ _ h => h) (Or.inl ⟨by rfl, fun w' hw' => ?_⟩) (by assumption) ?_
  · obtain ⟨g0, g1, g2, g3, g4, g5, g6, g7, g8, g9⟩ := HC.out w' hw'.out
    clear hHeld
    go_simp
  simp only [Act.put, List.setIfInBounds_toArray, List.set_cons_zero, List.set_cons_succ]
  refine wpAnyH_take (i := 2) (oi := ⟨some 16, _, _, _, _, _⟩) (v := (.agg #[.int .u8 k, .int .u32 od, .int .u8 po, .slice lp ln lcp, .slice tp tn tcp, .slice wp wn wcp, .int .u8 sk, .int .u8 fr, .int .u8 to, .int .i64 q])) rfl (by kernel_rfl) (by kernel_rfl) (by kernel_rfl) (fun _ _ _ h => h) (Or.inl ⟨by rfl, fun w' hw' => ?_⟩) (by assumption) ?_
  · obtain ⟨g0, g1, g2, g3, g4, g5, g6, g7, g8, g9⟩ := HC.out w' hw'.out
    clear hHeld
    go_simp
  simp only [Act.put, List.setIfInBounds_toArray, List.set_cons_zero, List.set_cons_succ]
  clear a0 a1 a2 a3 a4 a5 a6 a7 a8 a9
  generalize w2.drew = Wd at *
  refine wpAnyH_ready (rs := [1]) (by kernel_rfl) (by simp) (AllReadyH.cons rfl (fun K hK => ?_) AllReadyH.nil)
  go_simp
  go_wp2_with fail
  refine (orders_any k od po lp ln lcp tp tn tcp wp wn wcp sk fr to q L T M _ (HP1.out.later hHeld.out).t (by omega)).mono ?_
  rintro e x5 ⟨p5, c5, rfl, hl5, hb5, _⟩
  have hH5 : Hid (Below W1.heap.size W1 x5) := Lib.hid (hHeld.out.trans (hb5.mono hHeld.out.size))
  have HH5 := hH5
  have HL5 := Lib.hid hl5
  have HBB5 := Lib.hid hb5
  clear hl5 hb5
  go_wp2_with fail
  refine hK.out _ _ hH5 (fun hHeld2 => ?_)
  clear hH5
  clear hK K hHeld
  have hHeld := hHeld2
  clear hHeld2
  try simp only [Act.put, List.setIfInBounds_toArray, List.set_cons_zero, List.set_cons_succ]
  refine wpAnyH_ready (rs := [3]) (by kernel_rfl) (by simp) (AllReadyH.cons rfl (fun K hK => ?_) AllReadyH.nil)
  go_simp
  go_wp2_with fail
  refine (rorders_any k od po lp ln lcp tp tn tcp wp wn wcp sk fr to q L T M _ (HP1.out.later hHeld.out).t (by omega)).mono ?_
  rintro e x6 ⟨p6, c6, rfl, hl6, hb6, _⟩
  have hH6 : Hid (Below W1.heap.size W1 x6) := Lib.hid (hHeld.out.trans (hb6.mono hHeld.out.size))
  have HH6 := hH6
  have HL6 := Lib.hid hl6
  have HBB6 := Lib.hid hb6
  clear hl6 hb6
  go_wp2_with fail
  refine hK.out _ _ hH6 (fun hHeld2 => ?_)
  clear hH6
  clear hK K hHeld
  have hHeld := hHeld2
  clear hHeld2
  try simp only [Act.put, List.setIfInBounds_toArray, List.set_cons_zero, List.set_cons_succ]
  have HLA := Lib.hid (HL5.out.later HBB6.out)
  have HOL : Hid ((ordersP ⟨k, od, po, L, T, M, sk, fr, to, q⟩).length ≤ 30) := Lib.hid (by
    unfold ordersP
    split
    · simp
    · rw [List.length_map]; have := HP1.out.t.len; dsimp only; omega)
  generalize ordersP ⟨k, od, po, L, T, M, sk, fr, to, q⟩ = OL at *
  obtain ⟨no, hno⟩ : ∃ no, OL.length = no := ⟨_, rfl⟩
  have HNO := Lib.hid hno
  simp only [hno] at HLA HL6 HOL ⊢
  clear hno HL5
  refine wpAnyH_take (i := 4) (oi := ⟨some 7, _, _, _, _, _⟩) (v := .slice p5 no c5) rfl (by kernel_rfl) (by kernel_rfl) (by kernel_rfl) (fun _ _ _ h => h) (Or.inl ⟨by rfl, fun w' hw' => ?_⟩) (by assumption) ?_
  · clear hHeld
    go_simp
  simp only [Act.put, List.setIfInBounds_toArray, List.set_cons_zero, List.set_cons_succ]
  refine wpAnyH_take (i := 5) (oi := ⟨some 8, _, _, _, _, _⟩) (v := .slice p6 no c6) rfl (by kernel_rfl) (by kernel_rfl) (by kernel_rfl) (fun _ _ _ h => h) (Or.inl ⟨by rfl, fun w' hw' => ?_⟩) (by assumption) ?_
  · clear hHeld
    go_simp
  simp only [Act.put, List.setIfInBounds_toArray, List.set_cons_zero, List.set_cons_succ]
  refine wpAnyH_done (by kernel_rfl) ?_ _
  clear hHeld
  have hcp1 := HLA.out.cap
  have hcp2 := HL6.out.cap
  have hno30 := HOL.out
  go_wp2_with fail
  go_loopw [9] (fun i wr => ∃ j : Nat, j ≤ no ∧ i = .int .i64 j ∧ Hid (Below x6.heap.size x6 wr)) (fun i _ => no - (Go.RowKit.intOf i).toNat)
  case atStart => exact ⟨0, Nat.zero_le _, rfl, Lib.hid (Below.refl _ _)⟩
  case round =>
    obtain ⟨j, hj, rfl, HBr⟩ := hrel
    by_cases hlt : j < no
    case pos =>
      have hlt' : (j : Int) < no := by omega
      obtain ⟨b5, o5, rfl, k5⟩ := ul_cell (HLA.out.later HBr.out) hlt
      obtain ⟨b6, o6, rfl, k6⟩ := ul_cell (HL6.out.later HBr.out) hlt
      generalize OL.getD j 0 = y at *
      have hyy : (y != y) = false := by simp
      go_wp2_with fail
      go_quiet (fail)
      go_wp2_with fail
      go_roundw
      case rel => exact ⟨j + 1, by omega, by go_num, Lib.hid (by repeat (first | exact HBr.out | refine below_drewN ?_ _))⟩
      case measure => simp [Go.RowKit.intOf]; omega
    obtain rfl : no = j := by omega
    have HBX := Lib.hid (HH6.out.trans (HBr.out.mono HH6.out.size))
    have HPX := Lib.hid (HP1.out.later HBX.out)
    have HVX := Lib.hid (HV1.out.later HBX.out)
    have hg := fun z : After wr => good_p s w k od po lp ln lcp tp tn tcp wp wn wcp sk fr to q L T M z.w (HVX.out.later z.h) (HPX.out.later z.h) HOK.out ⟨by omega, by omega, by omega⟩
    have hrg := fun z : After wr => rgood_p s w k od po lp ln lcp tp tn tcp wp wn wcp sk fr to q L T M z.w (HPX.out.later z.h) HOK.out ⟨by omega, by omega, by omega⟩
    have hwk := fun q : After wr => prog_works q.w (HVX.out.later q.h)
    generalize goodP s w ⟨k, od, po, L, T, M, sk, fr, to, q⟩ = gg at *
    have hgg : (gg == gg) = true := beq_self_eq_true gg
    obtain ⟨a0, a1, a2, a3, a4, a5, a6, a7, a8, a9⟩ := HC.out wr HBX.out
    have e0 := fun q : After wr => cell_after q a0
    have e1 := fun q : After wr => cell_after q a1
    have e2 := fun q : After wr => cell_after q a2
    have e3 := fun q : After wr => cell_after q a3
    have e4 := fun q : After wr => cell_after q a4
    have e5 := fun q : After wr => cell_after q a5
    have e6 := fun q : After wr => cell_after q a6
    have e7 := fun q : After wr => cell_after q a7
    have e8 := fun q : After wr => cell_after q a8
    have e9 := fun q : After wr => cell_after q a9
    clear a0 a1 a2 a3 a4 a5 a6 a7 a8 a9
    go_wp2_with fail
    refine wp_region_after (by kernel_rfl) (by kernel_rfl) ?_
    repeat (go_big_quiet_step (first | (go_at_call 12; with_reducible exact calls_after _ (hg _)) | (go_at_call 13; with_reducible exact calls_after _ (hrg _)) | (go_at_call 9; with_reducible exact calls_after _ (hwk _))))
    refine wpQuiet_nil ?_
    rintro w3 ⟨⟨wq, h6⟩, hw3⟩
    subst hw3
    have HB9 := Lib.hid (HBX.out.trans (h6.mono HBX.out.size))
    clear h6 hg hrg hwk e0 e1 e2 e3 e4 e5 e6 e7 e8 e9
    go_wp2_with fail
    go_ret
    exact ⟨rfl, HB1.out.trans (HB9.out.mono HB1.out.size)⟩
end Go.Proofs.YtanndpmlpoplnaaDoor
