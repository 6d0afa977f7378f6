/- A program's steps: the program's way. -/
/- A program's steps, of all kinds: the program's way. -/
import Derived.Test.YtdcanppiiikjgaaDoorPgWell
import Derived.Test.YtdcanppiiikjgaaDoorGrProgk
namespace Go.Proofs.YtdcanppiiikjgaaDoor
open Go.RowKit Go.ChangeShapes Go.WideShapes
set_option linter.unusedVariables false
set_option linter.unusedSimpArgs false
set_option maxRecDepth 10000

/-- Steps in a block made last: a row of the call's own. -/
theorem FillS.lit {W w : World} {cs : Array Value} {H : List Hs} {S : List Stp} {m : Nat} (hb : Below W.heap.size W w) (hc : cs.toList = flatG sc H) (hm : H.length = m) (hbig : m ≤ 1000) (hT : TellsAll w H S) : FillS W (w.alloc (.cells cs 76)) (.slice (some ⟨w.heap.size, 0, none⟩) m m) H S m := by
  have hba : Below w.heap.size w (w.alloc (.cells cs 76)) := (Below.refl _ _).alloc (Nat.le_refl _) _
  have hs : cs.size = m * 3 := by rw [← Array.length_toList, hc, flatG_len sc_len, hm]
  have ho := World.ownsRow_lit (e := 76) (base := W.heap.size) (size := 3) w cs m hb.size (by unfold maxLen; omega) hs
  rw [hc] at ho
  refine ⟨by rw [hm]; exact ho, hb.trans (hba.mono hb.size), Nat.le_of_eq hm, hT.later hba, fun h hh h0 ad he hx => ?_⟩
  have := tells_old hT h hh h0 ad he
  have hx' : w.heap.size = ad.block := Option.some.inj hx
  omega
theorem owing_none (t : Int) (p : Option Addr) (c : Nat) (W : World) : Calls Tryd.prog 83 #[.int .u8 t, .slice p (0 : Nat) c] W fun e w' => e = .returned (.slice none 0 0) ∧ Below W.heap.size W w' := by
  have d0 : (((0 : Nat) : Int) == 0) = true := rfl
  go_enter Tryd.func83, Tryd.ntmps83
  go_wp2_with fail
  go_ret
  exact ⟨rfl, Below.refl _ _⟩
theorem owing_some (t : Int) (p : Option Addr) (n c : Nat) (M : List Ln) (W : World) (hM : LL W p n c M) (h1 : 1 ≤ n) (hn : n ≤ 1000) : Calls Tryd.prog 83 #[.int .u8 t, .slice p n c] W fun e w' => ∃ B p' c', e = .returned (.slice (some ⟨B, 0, none⟩) 1 1) ∧ w'.heap[B]? = some (.cells #[.int .u8 t, .int .u8 0, .slice p' n c'] 76 (0, 0)) ∧ LL w' p' n c' M ∧ Below W.heap.size W w' ∧ ∀ ad, p' = some ad → W.heap.size ≤ ad.block := by
  have d0 : ((n : Int) == 0) = false := by simp; omega
  have hcl := clone_ln p n c M W hM (by omega)
  have HLN := Lib.hid hM.len
  have hcap := hM.cap
  clear hM h1
  go_enter Tryd.func83, Tryd.ntmps83
  go_wp2_with fail
  refine hcl.mono ?_
  rintro e w2 ⟨v, rfl, hf⟩
  obtain ⟨p', c', hv, hl, hb, ha⟩ := hf.gives (d := l0) lc_len (by decide)
  cases hv
  rw [HLN.out] at hl ⊢
  have hba : Below w2.heap.size w2 (w2.alloc (.cells #[.int .u8 t, .int .u8 0, .slice p' n c'] 76)) := (Below.refl _ _).alloc (Nat.le_refl _) _
  have HL := Lib.hid (hl.later hba)
  have HB := Lib.hid (hb.trans (hba.mono hb.size))
  have HX := Lib.hid (alloc_block w2 (.cells #[.int .u8 t, .int .u8 0, .slice p' n c'] 76))
  have HA := Lib.hid ha
  clear hcl hf hl hb ha hba
  go_wp2_with fail
  go_ret
  exact ⟨_, p', c', rfl, HX.out, HL.out, HB.out, HA.out⟩
theorem allT_named {od po : Int} {L : List Ln} {T : List Tk} {M : List Ln} {sk fr to q : Int} (h : goodP 4 4 ⟨5, od, po, L, T, M, sk, fr, to, q⟩ = true) : total (allT T) = namedI T [] sk := by
  have h2 : (sizedB 4 4 && askP 4 4 ⟨5, od, po, L, T, M, sk, fr, to, q⟩ && decide ((⟨5, od, po, L, T, M, sk, fr, to, q⟩ : Pg) = qofP ⟨5, od, po, L, T, M, sk, fr, to, q⟩)) = true := h
  rw [ask5] at h2
  simp only [Bool.and_eq_true] at h2
  exact (named_all T sk (fills_sku h2.1.2.2)).symm
set_option maxHeartbeats 8000000 in
theorem restock_any (od po : Int) (lp : Option Addr) (ln lcp : Nat) (tp : Option Addr) (tn tcp : Nat) (wp : Option Addr) (wn wcp : Nat) (sk fr to q : Int) (L : List Ln) (T : List Tk) (M : List Ln) (W : World) (hP : PgM W lp ln lcp L tp tn tcp T wp wn wcp M) (hok : Pgok ⟨5, od, po, L, T, M, sk, fr, to, q⟩) (h1 : ln ≤ 400 ∧ tn ≤ 400 ∧ wn ≤ 400) (hg : goodP 4 4 ⟨5, od, po, L, T, M, sk, fr, to, q⟩ = true) :
    Calls Tryd.prog 84 #[.agg #[.int .u8 5, .int .u32 od, .int .u8 po, .slice lp ln lcp, .slice tp tn tcp, .slice wp wn wcp, .int .u8 sk, .int .u8 fr, .int .u8 to, .int .i64 q]] W (GivesS W (stepsP ⟨5, od, po, L, T, M, sk, fr, to, q⟩)) := by
  rw [steps_five od po L T M sk fr to q hg]
  have hzz := five_ok od po L T M sk fr to q hg
  have hta := together_any tp tn tcp T
  rw [allT_named hg] at hta
  obtain ⟨R, hR⟩ : ∃ R, (if 1 ≤ T.length then [((1 : Int), to, [(sk, namedI T [] sk)]), (8, 0, [(sk, namedI T [] sk)])] else []) = R := ⟨_, rfl⟩
  rw [hR]
  have HRR := Lib.hid hR
  clear hR
  obtain ⟨W1, hW1, hbx, hb1⟩ : ∃ W1, W.alloc (.cells #[.int .u8 5, .int .u32 od, .int .u8 po, .slice lp ln lcp, .slice tp tn tcp, .slice wp wn wcp, .int .u8 sk, .int .u8 fr, .int .u8 to, .int .i64 q] 28) = W1 ∧ W1.heap[W.heap.size]? = some (.cells #[.int .u8 5, .int .u32 od, .int .u8 po, .slice lp ln lcp, .slice tp tn tcp, .slice wp wn wcp, .int .u8 sk, .int .u8 fr, .int .u8 to, .int .i64 q] 28 (0, 0)) ∧ Below W.heap.size W W1 := ⟨_, rfl, alloc_block W _, (Below.refl _ _).alloc (Nat.le_refl _) _⟩
  have HW1 := Lib.hid hW1
  have HB1 := Lib.hid hb1
  have HX := Lib.hid hbx
  have HT := Lib.hid (hP.later hb1).t
  have HTOK := Lib.hid hok.takes
  have HLT := Lib.hid hP.t.len
  have HTA := Lib.hid hta
  have hcap := hP.t.cap
  obtain ⟨_, h12, _⟩ := h1
  have HC := Lib.hid fun w' (h : Below W1.heap.size W1 w') => prog_cells 5 od po lp ln lcp tp tn tcp wp wn wcp sk fr to q (block_later HX.out h)
  obtain ⟨a0, a1, a2, a3, a4, a5, a6, a7, a8, a9⟩ := HC.out W1 (Below.refl _ _)
  clear hW1 hb1 hbx hP hok hta hg
  go_enter Tryd.func84, Tryd.ntmps84
  go_wp2_with fail
  rw [HW1.out]
  refine (single_st 5 to sk q W1).mono ?_
  rintro e w3 ⟨p3, c3, rfl, hl3, hb3, ha3⟩
  simp only [List.length_cons, List.length_nil, Nat.zero_add] at hl3 ⊢
  have HF4 := Lib.hid (FillS.lit (m := 1) (cs := #[.int .u8 5, .int .u8 to, .slice p3 1 c3]) (H := [hsOf 5 to p3 1 c3]) (S := [(5, to, [(sk, q)])]) hb3 rfl rfl (by omega) ⟨⟨rfl, rfl, hl3⟩, trivial⟩)
  generalize hw4 : w3.alloc (.cells #[.int .u8 5, .int .u8 to, .slice p3 1 c3] 76) = w4 at *
  have HW4 := Lib.hid hw4
  clear hl3 hb3 ha3 hw4 a0 a1 a2 a3 a4 a5 a6 a7 a8 a9
  obtain ⟨a0, a1, a2, a3, a4, a5, a6, a7, a8, a9⟩ := HC.out w4 HF4.out.below
  by_cases ht : 1 ≤ tn
  case neg =>
    obtain rfl : tn = 0 := by omega
    have d1 : (((0 : Nat) : Int) == 0) = true := rfl
    have hR := HRR.out
    rw [if_neg (by rw [HLT.out]; exact ht)] at hR
    subst hR
    go_upto_region 2 with (fail)
    rw [HW4.out]
    go_wp2_with fail
    go_ret
    exact (HF4.out.gives).since HB1.out
  have d1 : ((tn : Int) == 0) = false := by simp; omega
  have hR := HRR.out
  rw [if_pos (by rw [HLT.out]; exact ht)] at hR
  have HR2 := Lib.hid hR
  have hta := HTA.out w4 (HT.out.later HF4.out.below) HTOK.out (by omega)
  rw [val_in _ ((okB_iff _).1 hzz), hzz] at hta
  clear hR HRR ht
  generalize namedI T [] sk = z at *
  go_upto_region 2 with (fail)
  rw [HW4.out]
  go_wp2_with fail
  refine hta.mono ?_
  rintro e w5 ⟨rfl, h5⟩
  have HF5 := Lib.hid (HF4.out.later h5)
  clear hta h5 a0 a1 a2 a3 a4 a5 a6 a7 a8 a9
  have hbd : Below W1.heap.size W1 w5.drew := HF5.out.below.drew
  have HF6 := Lib.hid (HF5.out.later (show Below w5.heap.size w5 w5.drew from (Below.refl _ _).drew))
  obtain ⟨x4, hx4⟩ : ∃ x4 : Nat, w3.heap.size = x4 := ⟨_, rfl⟩
  rw [hx4] at HF5 HF6 ⊢
  clear hx4 HF4 HW4
  go_wp2_with fail
  refine wp_region_held_drew (S := fun w' => Hid (Below W1.heap.size W1 w')) (by kernel_rfl) (Lib.hid hbd) (fun hHeld => ?_)
  clear hbd
  refine wpAnyH_take (i := 0) (oi := ⟨some 25, _, _, _, _, _⟩) (v := .slice (some ⟨x4, 0, none⟩) 1 1) rfl (by kernel_rfl) (by kernel_rfl) (by kernel_rfl) (fun _ _ _ h => h) (Or.inl ⟨by rfl, fun w' hw' => ?_⟩) (by assumption) ?_
  · clear hHeld
    go_simp
  simp only [Act.put, List.setIfInBounds_toArray, List.set_cons_zero, List.set_cons_succ]
  refine wpAnyH_take (i := 1) (oi := ⟨some 26, _, _, _, _, _⟩) (v := .pointer (some ⟨W.heap.size, 8, none⟩)) rfl (by kernel_rfl) (by kernel_rfl) (by kernel_rfl) (fun _ _ _ h => h) (Or.inl ⟨by rfl, fun w' hw' => ?_⟩) (by assumption) ?_
  · clear hHeld
    go_simp
  simp only [Act.put, List.setIfInBounds_toArray, List.set_cons_zero, List.set_cons_succ]
  refine wpAnyH_take (i := 2) (oi := ⟨some 27, _, _, _, _, _⟩) (v := .int .u8 to) rfl (by kernel_rfl) (by kernel_rfl) (by kernel_rfl) (fun _ _ _ h => h) (Or.inl ⟨by rfl, fun w' hw' => ?_⟩) (by assumption) ?_
  · obtain ⟨g0, g1, g2, g3, g4, g5, g6, g7, g8, g9⟩ := HC.out w' hw'.out
    clear hHeld
    go_simp
  simp only [Act.put, List.setIfInBounds_toArray, List.set_cons_zero, List.set_cons_succ]
  refine wpAnyH_take (i := 3) (oi := ⟨some 28, _, _, _, _, _⟩) (v := .pointer (some ⟨W.heap.size, 6, none⟩)) rfl (by kernel_rfl) (by kernel_rfl) (by kernel_rfl) (fun _ _ _ h => h) (Or.inl ⟨by rfl, fun w' hw' => ?_⟩) (by assumption) ?_
  · clear hHeld
    go_simp
  simp only [Act.put, List.setIfInBounds_toArray, List.set_cons_zero, List.set_cons_succ]
  refine wpAnyH_take (i := 4) (oi := ⟨some 29, _, _, _, _, _⟩) (v := .int .u8 sk) rfl (by kernel_rfl) (by kernel_rfl) (by kernel_rfl) (fun _ _ _ h => h) (Or.inl ⟨by rfl, fun w' hw' => ?_⟩) (by assumption) ?_
  · obtain ⟨g0, g1, g2, g3, g4, g5, g6, g7, g8, g9⟩ := HC.out w' hw'.out
    clear hHeld
    go_simp
  simp only [Act.put, List.setIfInBounds_toArray, List.set_cons_zero, List.set_cons_succ]
  refine wpAnyH_take (i := 5) (oi := ⟨some 30, _, _, _, _, _⟩) (v := .int .i64 z) rfl (by kernel_rfl) (by kernel_rfl) (by kernel_rfl) (fun _ _ _ h => h) (Or.inl ⟨by rfl, fun w' hw' => ?_⟩) (by assumption) ?_
  · clear hHeld
    go_simp
  simp only [Act.put, List.setIfInBounds_toArray, List.set_cons_zero, List.set_cons_succ]
  refine wpAnyH_take (i := 7) (oi := ⟨some 32, _, _, _, _, _⟩) (v := .pointer (some ⟨W.heap.size, 6, none⟩)) rfl (by kernel_rfl) (by kernel_rfl) (by kernel_rfl) (fun _ _ _ h => h) (Or.inl ⟨by rfl, fun w' hw' => ?_⟩) (by assumption) ?_
  · clear hHeld
    go_simp
  simp only [Act.put, List.setIfInBounds_toArray, List.set_cons_zero, List.set_cons_succ]
  refine wpAnyH_take (i := 8) (oi := ⟨some 33, _, _, _, _, _⟩) (v := .int .u8 sk) rfl (by kernel_rfl) (by kernel_rfl) (by kernel_rfl) (fun _ _ _ h => h) (Or.inl ⟨by rfl, fun w' hw' => ?_⟩) (by assumption) ?_
  · obtain ⟨g0, g1, g2, g3, g4, g5, g6, g7, g8, g9⟩ := HC.out w' hw'.out
    clear hHeld
    go_simp
  simp only [Act.put, List.setIfInBounds_toArray, List.set_cons_zero, List.set_cons_succ]
  refine wpAnyH_take (i := 9) (oi := ⟨some 34, _, _, _, _, _⟩) (v := .int .i64 z) rfl (by kernel_rfl) (by kernel_rfl) (by kernel_rfl) (fun _ _ _ h => h) (Or.inl ⟨by rfl, fun w' hw' => ?_⟩) (by assumption) ?_
  · clear hHeld
    go_simp
  simp only [Act.put, List.setIfInBounds_toArray, List.set_cons_zero, List.set_cons_succ]
  generalize w5.drew = Wd at *
  refine wpAnyH_ready (rs := [6]) (by kernel_rfl) (by simp) (AllReadyH.cons rfl (fun K hK => ?_) AllReadyH.nil)
  go_simp
  go_wp2_with fail
  refine (single_st 1 to sk z _).mono ?_
  rintro e x7 ⟨p7, c7, rfl, hl7, hb7, ha7⟩
  have hH7 : Hid (Below W1.heap.size W1 x7) := Lib.hid (hHeld.out.trans (hb7.mono hHeld.out.size))
  have HL7 := Lib.hid hl7
  have HAP7 := Lib.hid ha7
  have HBB7 := Lib.hid hb7
  clear hl7 hb7 ha7
  go_wp2_with fail
  refine hK.out _ _ hH7 (fun hHeld2 => ?_)
  clear hH7
  clear hK K hHeld
  have hHeld := hHeld2
  clear hHeld2
  try simp only [Act.put, List.setIfInBounds_toArray, List.set_cons_zero, List.set_cons_succ]
  have HF7 := Lib.hid (HF6.out.later HBB7.out)
  refine wpAnyH_ready (rs := [10]) (by kernel_rfl) (by simp) (AllReadyH.cons rfl (fun K hK => ?_) AllReadyH.nil)
  go_simp
  go_wp2_with fail
  refine (single_st 8 0 sk z _).mono ?_
  rintro e x8 ⟨p8, c8, rfl, hl8, hb8, ha8⟩
  have hH8 : Hid (Below W1.heap.size W1 x8) := Lib.hid (hHeld.out.trans (hb8.mono hHeld.out.size))
  have HL8 := Lib.hid hl8
  have HAP8 := Lib.hid ha8
  have HBB8 := Lib.hid hb8
  clear hl8 hb8 ha8
  go_wp2_with fail
  refine hK.out _ _ hH8 (fun hHeld2 => ?_)
  clear hH8
  clear hK K hHeld
  have hHeld := hHeld2
  clear hHeld2
  try simp only [Act.put, List.setIfInBounds_toArray, List.set_cons_zero, List.set_cons_succ]
  have HF8 := Lib.hid (HF7.out.later HBB8.out)
  refine wpAnyH_ready (rs := [11]) (by kernel_rfl) (by simp) (AllReadyH.cons rfl (fun K hK => ?_) AllReadyH.nil)
  go_simp
  have hba : Below x8.heap.size x8 (x8.alloc (.cells #[.int .u8 1, .int .u8 to, .slice p7 1 c7, .int .u8 8, .int .u8 0, .slice p8 1 c8] 76)) := (Below.refl _ _).alloc (Nat.le_refl _) _
  have hT : TellsAll (x8.alloc (.cells #[.int .u8 1, .int .u8 to, .slice p7 1 c7, .int .u8 8, .int .u8 0, .slice p8 1 c8] 76)) [hsOf 1 to p7 1 c7, hsOf 8 0 p8 1 c8] [(1, to, [(sk, z)]), (8, 0, [(sk, z)])] := ⟨⟨rfl, rfl, (HL7.out.later HBB8.out).later hba⟩, ⟨rfl, rfl, HL8.out.later hba⟩, trivial⟩
  have HT9 := Lib.hid hT
  have HF9 := Lib.hid (HF8.out.later hba)
  have HNW := Lib.hid (step_news (H := [hsOf 1 to p7 1 c7, hsOf 8 0 p8 1 c8]) (alloc_block x8 (.cells #[.int .u8 1, .int .u8 to, .slice p7 1 c7, .int .u8 8, .int .u8 0, .slice p8 1 c8] 76)) rfl)
  have hH9 : Hid (Below W1.heap.size W1 (x8.alloc (.cells #[.int .u8 1, .int .u8 to, .slice p7 1 c7, .int .u8 8, .int .u8 0, .slice p8 1 c8] 76))) := Lib.hid (hHeld.out.trans (hba.mono hHeld.out.size))
  have HAA : Hid (∀ h ∈ [hsOf 1 to p7 1 c7, hsOf 8 0 p8 1 c8], 0 < h.2.2.2.1 → ∀ ad, h.2.2.1 = some ad → (Value.slice (some ⟨x4, 0, none⟩) 1 1).ownBlock ≠ some ad.block) := Lib.hid fun h hh h0 ad he hb => by
    have hlt := (HF6.out.own.lt ad.block hb).2
    simp only [List.mem_cons, List.not_mem_nil, or_false] at hh
    rcases hh with rfl | rfl
    · have := HAP7.out ad he
      omega
    · have := HAP8.out ad he
      have := HBB7.out.size
      omega
  clear hT hba
  refine hK.out _ _ hH9 (fun hHeld2 => ?_)
  clear hH9
  clear hK K hHeld
  have hHeld := hHeld2
  clear hHeld2
  try simp only [Act.put, List.setIfInBounds_toArray, List.set_cons_zero, List.set_cons_succ]
  refine wpAnyH_ready (rs := [12]) (by kernel_rfl) (by simp) (AllReadyH.cons rfl (fun K hK => ?_) AllReadyH.nil)
  refine step_append_steps rfl (.tmp 25) (.tmp 36) rfl (.slice (some ⟨x4, 0, none⟩) 1 1) _ _ _ (by simp [Act.eval]) HF9.out x8.heap.size 2 [hsOf 1 to p7 1 c7, hsOf 8 0 p8 1 c8] [(1, to, [(sk, z)]), (8, 0, [(sk, z)])] (by simp [Act.eval]) rfl HNW.out HT9.out HAA.out (by omega) ?_
  intro p6 n6 c6 x6 h6
  have HFA := Lib.hid h6
  have hH6 : Hid (Below W1.heap.size W1 x6) := Lib.hid h6.below
  clear h6
  refine hK.out _ _ hH6 (fun hHeld2 => ?_)
  clear hH6
  clear hK K hHeld
  have hHeld := hHeld2
  clear hHeld2
  try simp only [Act.put, List.setIfInBounds_toArray, List.set_cons_zero, List.set_cons_succ]
  refine wpAnyH_take (i := 13) (oi := ⟨some 2, _, _, _, _, _⟩) (v := .slice p6 n6 c6) rfl (by kernel_rfl) (by kernel_rfl) (by kernel_rfl) (fun _ _ _ h => h) (Or.inl ⟨by rfl, fun w' hw' => ?_⟩) (by assumption) ?_
  · clear hHeld
    go_simp
  simp only [Act.put, List.setIfInBounds_toArray, List.set_cons_zero, List.set_cons_succ]
  refine wpAnyH_done (by kernel_rfl) ?_ _
  clear hHeld
  go_wp2_with fail
  go_ret
  have hfin := HFA.out.gives
  rw [HR2.out] at hfin
  have hfin2 := hfin.since HB1.out
  clear hfin
  first | exact hfin2 | (simp only [List.set_cons_zero, List.set_cons_succ]; exact hfin2) | (simp; exact hfin2)
end Go.Proofs.YtdcanppiiikjgaaDoor
namespace Go.Proofs.YtdcanppiiikjgaaDoor
open Go.RowKit Go.ChangeShapes Go.WideShapes
set_option linter.unusedVariables false
set_option linter.unusedSimpArgs false
set_option maxRecDepth 10000

theorem takes_of {K od po : Int} {L : List Ln} {T : List Tk} {M : List Ln} {sk fr to q : Int} (hK : K = 1 ∨ K = 2 ∨ K = 3 ∨ K = 4) (h : goodP 4 4 ⟨K, od, po, L, T, M, sk, fr, to, q⟩ = true) : takesB 4 4 od T = true := by
  have h2 : (sizedB 4 4 && askP 4 4 ⟨K, od, po, L, T, M, sk, fr, to, q⟩ && decide ((⟨K, od, po, L, T, M, sk, fr, to, q⟩ : Pg) = qofP ⟨K, od, po, L, T, M, sk, fr, to, q⟩)) = true := h
  rcases hK with rfl | rfl | rfl | rfl
  · rw [ask1] at h2; simp only [Bool.and_eq_true] at h2; exact h2.1.2.1.1.1.2
  · rw [ask2] at h2; simp only [Bool.and_eq_true] at h2; exact h2.1.2.1.1.2
  · rw [ask3] at h2; simp only [Bool.and_eq_true] at h2; exact h2.1.2.1.2
  · rw [ask4] at h2; simp only [Bool.and_eq_true] at h2; exact h2.1.2.1.2
theorem steps_house {K od po : Int} {L : List Ln} {T : List Tk} {M : List Ln} {sk fr to q : Int} (hK : K = 1 ∨ K = 2 ∨ K = 3 ∨ K = 4) (hT : ∀ x ∈ T, Tkok x) (h : goodP 4 4 ⟨K, od, po, L, T, M, sk, fr, to, q⟩ = true) : stepsP ⟨K, od, po, L, T, M, sk, fr, to, q⟩ = housesP K T ++ owesS K M := by
  have ht := takes_of hK h
  have hh := house_at K od T (fun x hx => (hT x hx).2.2.1.1) ht T.length (Nat.le_refl _)
  rw [List.take_length] at hh
  unfold stepsP
  rw [if_pos h, hh]
  dsimp only
  rw [if_neg (by omega), if_neg (by omega)]
theorem owes_34 {K : Int} {M : List Ln} (hK : K = 3 ∨ K = 4) : owesS K M = [] := by
  unfold owesS
  rw [if_neg (by omega), if_neg (by omega)]
theorem owes_0 {K : Int} : owesS K [] = [] := by
  unfold owesS
  rw [if_neg (by simp), if_neg (by simp)]
theorem owes_1 {M : List Ln} (h : 1 ≤ M.length) : owesS 1 M = [(7, 0, M)] := by
  unfold owesS
  rw [if_pos ⟨h, rfl⟩]
theorem owes_2 {M : List Ln} (h : 1 ≤ M.length) : owesS 2 M = [(8, 0, M)] := by
  unfold owesS
  rw [if_neg (by omega), if_pos ⟨h, rfl⟩]
set_option maxHeartbeats 8000000 in
theorem steps1_p (od po : Int) (lp : Option Addr) (ln lcp : Nat) (tp : Option Addr) (tn tcp : Nat) (wp : Option Addr) (wn wcp : Nat) (sk fr to q : Int) (L : List Ln) (T : List Tk) (M : List Ln) (W : World) (hw : Words W) (hP : PgM W lp ln lcp L tp tn tcp T wp wn wcp M) (hok : Pgok ⟨1, od, po, L, T, M, sk, fr, to, q⟩) (h1 : ln ≤ 400 ∧ tn ≤ 400 ∧ wn ≤ 400) (hg : goodP 4 4 ⟨1, od, po, L, T, M, sk, fr, to, q⟩ = true) :
    Calls Tryd.prog 41 #[.agg #[.int .u8 1, .int .u32 od, .int .u8 po, .slice lp ln lcp, .slice tp tn tcp, .slice wp wn wcp, .int .u8 sk, .int .u8 fr, .int .u8 to, .int .i64 q]] W (GivesS W (stepsP ⟨1, od, po, L, T, M, sk, fr, to, q⟩)) := by
  rw [steps_house (.inl rfl) hok.takes hg]
  obtain ⟨W1, hW1, hbx, hb1⟩ : ∃ W1, W.alloc (.cells #[.int .u8 1, .int .u32 od, .int .u8 po, .slice lp ln lcp, .slice tp tn tcp, .slice wp wn wcp, .int .u8 sk, .int .u8 fr, .int .u8 to, .int .i64 q] 28) = W1 ∧ W1.heap[W.heap.size]? = some (.cells #[.int .u8 1, .int .u32 od, .int .u8 po, .slice lp ln lcp, .slice tp tn tcp, .slice wp wn wcp, .int .u8 sk, .int .u8 fr, .int .u8 to, .int .i64 q] 28 (0, 0)) ∧ Below W.heap.size W W1 := ⟨_, rfl, alloc_block W _, (Below.refl _ _).alloc (Nat.le_refl _) _⟩
  have hgd := good_p 4 4 1 od po lp ln lcp tp tn tcp wp wn wcp sk fr to q L T M W1 (hw.later hb1) (hP.later hb1) hok h1
  rw [hg] at hgd
  have HW1 := Lib.hid hW1
  have HB1 := Lib.hid hb1
  have HX := Lib.hid hbx
  have HP := Lib.hid (hP.later hb1)
  have HOK := Lib.hid hok
  have HGG := Lib.hid hg
  have H1 := Lib.hid h1
  have HLM := Lib.hid hP.o.len
  have HC := Lib.hid fun w' (h : Below W1.heap.size W1 w') => prog_cells 1 od po lp ln lcp tp tn tcp wp wn wcp sk fr to q (block_later HX.out h)
  obtain ⟨a0, a1, a2, a3, a4, a5, a6, a7, a8, a9⟩ := HC.out W1 (Below.refl _ _)
  clear hW1 hb1 hbx hP hok hg hw h1
  go_enter Tryd.func41, Tryd.ntmps41
  go_wp2_with fail
  rw [HW1.out]
  refine hgd.mono ?_
  rintro e w2 ⟨rfl, h2⟩
  have HB2 := Lib.hid h2
  clear hgd h2 a0 a1 a2 a3 a4 a5 a6 a7 a8 a9
  obtain ⟨a0, a1, a2, a3, a4, a5, a6, a7, a8, a9⟩ := HC.out w2 HB2.out
  have hbd : Below W1.heap.size W1 w2.drew := HB2.out.drew
  go_wp2_with fail
  refine wp_region_held_drew (S := fun w' => Hid (Below W1.heap.size W1 w')) (by kernel_rfl) (Lib.hid hbd) (fun hHeld => ?_)
  clear hbd
  refine wpAnyH_take (i := 0) (oi := ⟨some 10, _, _, _, _, _⟩) (v := .pointer (some ⟨W.heap.size, 4, none⟩)) rfl (by kernel_rfl) (by kernel_rfl) (by kernel_rfl) (fun _ _ _ h => h) (Or.inl ⟨by rfl, fun w' hw' => ?_⟩) (by assumption) ?_
  · clear hHeld
    go_simp
  simp only [Act.put, List.setIfInBounds_toArray, List.set_cons_zero, List.set_cons_succ]
  refine wpAnyH_take (i := 1) (oi := ⟨some 11, _, _, _, _, _⟩) (v := .slice tp tn tcp) rfl (by kernel_rfl) (by kernel_rfl) (by kernel_rfl) (fun _ _ _ h => h) (Or.inl ⟨by rfl, fun w' hw' => ?_⟩) (by assumption) ?_
  · obtain ⟨g0, g1, g2, g3, g4, g5, g6, g7, g8, g9⟩ := HC.out w' hw'.out
    clear hHeld
    go_simp
  simp only [Act.put, List.setIfInBounds_toArray, List.set_cons_zero, List.set_cons_succ]
  refine wpAnyH_take (i := 3) (oi := ⟨some 13, _, _, _, _, _⟩) (v := .pointer (some ⟨W.heap.size, 5, none⟩)) rfl (by kernel_rfl) (by kernel_rfl) (by kernel_rfl) (fun _ _ _ h => h) (Or.inl ⟨by rfl, fun w' hw' => ?_⟩) (by assumption) ?_
  · clear hHeld
    go_simp
  simp only [Act.put, List.setIfInBounds_toArray, List.set_cons_zero, List.set_cons_succ]
  refine wpAnyH_take (i := 4) (oi := ⟨some 14, _, _, _, _, _⟩) (v := .slice wp wn wcp) rfl (by kernel_rfl) (by kernel_rfl) (by kernel_rfl) (fun _ _ _ h => h) (Or.inl ⟨by rfl, fun w' hw' => ?_⟩) (by assumption) ?_
  · obtain ⟨g0, g1, g2, g3, g4, g5, g6, g7, g8, g9⟩ := HC.out w' hw'.out
    clear hHeld
    go_simp
  simp only [Act.put, List.setIfInBounds_toArray, List.set_cons_zero, List.set_cons_succ]
  clear a0 a1 a2 a3 a4 a5 a6 a7 a8 a9
  generalize w2.drew = Wd at *
  have HBD : Hid (Below W1.heap.size W1 Wd) := hHeld
  refine wpAnyH_ready (rs := [2]) (by kernel_rfl) (by simp) (AllReadyH.cons rfl (fun K hK => ?_) AllReadyH.nil)
  go_simp
  go_wp2_with fail
  refine (houses_any 1 tp tn tcp T _ (HP.out.later HBD.out).t (by have := H1.out; omega)).mono ?_
  rintro e x7 ⟨v7, H7, rfl, hf7⟩
  have hH7 : Hid (Below W1.heap.size W1 x7) := Lib.hid (HBD.out.trans (hf7.below.mono HBD.out.size))
  have HH7 := hH7
  have HF7 := Lib.hid hf7
  clear hf7
  go_wp2_with fail
  refine hK.out _ _ hH7 (fun hHeld2 => ?_)
  clear hH7
  clear hK K hHeld
  have hHeld := hHeld2
  clear hHeld2
  try simp only [Act.put, List.setIfInBounds_toArray, List.set_cons_zero, List.set_cons_succ]
  by_cases hwn : 1 ≤ wn
  case pos =>
    refine wpAnyH_ready (rs := [5]) (by kernel_rfl) (by simp) (AllReadyH.cons rfl (fun K hK => ?_) AllReadyH.nil)
    go_simp
    go_wp2_with fail
    refine (owing_some 7 wp wn wcp M x7 (HP.out.later HH7.out).o hwn (by have := H1.out; omega)).mono ?_
    rintro e x8 ⟨B8, p8, c8, rfl, hx8, hl8, hb8, ha8⟩
    have hH8 : Hid (Below W1.heap.size W1 x8) := Lib.hid (HH7.out.trans (hb8.mono HH7.out.size))
    have HF8 := Lib.hid (HF7.out.later hb8)
    have HNW := Lib.hid (step_news (H := [hsOf 7 0 p8 wn c8]) hx8 rfl)
    have HT8 := Lib.hid (show TellsAll x8 [hsOf 7 0 p8 wn c8] [(7, 0, M)] from ⟨⟨rfl, rfl, hl8⟩, trivial⟩)
    have HAA : Hid (∀ h ∈ [hsOf 7 0 p8 wn c8], 0 < h.2.2.2.1 → ∀ ad, h.2.2.1 = some ad → v7.ownBlock ≠ some ad.block) := Lib.hid fun h hh h0 ad he hb => by
      have hlt := (HF7.out.own.lt ad.block hb).2
      obtain rfl := List.mem_singleton.1 hh
      have := ha8 ad he
      omega
    clear hx8 hl8 hb8 ha8
    go_wp2_with fail
    refine hK.out _ _ hH8 (fun hHeld2 => ?_)
    clear hH8
    clear hK K hHeld
    have hHeld := hHeld2
    clear hHeld2
    try simp only [Act.put, List.setIfInBounds_toArray, List.set_cons_zero, List.set_cons_succ]
    refine wpAnyH_ready (rs := [6]) (by kernel_rfl) (by simp) (AllReadyH.cons rfl (fun K hK => ?_) AllReadyH.nil)
    refine step_append_steps rfl (.tmp 12) (.tmp 15) rfl v7 _ _ _ (by simp [Act.eval]) HF8.out B8 1 [hsOf 7 0 p8 wn c8] [(7, 0, M)] (by simp [Act.eval]) rfl HNW.out HT8.out HAA.out (by have := H1.out; omega) ?_
    intro p6 n6 c6 x6 h6
    have HFA := Lib.hid h6
    have hH6 : Hid (Below W1.heap.size W1 x6) := Lib.hid (HBD.out.trans (h6.below.mono HBD.out.size))
    clear h6
    refine hK.out _ _ hH6 (fun hHeld2 => ?_)
    clear hH6
    clear hK K hHeld
    have hHeld := hHeld2
    clear hHeld2
    try simp only [Act.put, List.setIfInBounds_toArray, List.set_cons_zero, List.set_cons_succ]
    refine wpAnyH_take (i := 7) (oi := ⟨some 2, _, _, _, _, _⟩) (v := .slice p6 n6 c6) rfl (by kernel_rfl) (by kernel_rfl) (by kernel_rfl) (fun _ _ _ h => h) (Or.inl ⟨by rfl, fun w' hw' => ?_⟩) (by assumption) ?_
    · clear hHeld
      go_simp
    simp only [Act.put, List.setIfInBounds_toArray, List.set_cons_zero, List.set_cons_succ]
    refine wpAnyH_done (by kernel_rfl) ?_ _
    clear hHeld
    go_wp2_with fail
    go_ret
    rw [owes_1 (by rw [HLM.out]; exact hwn)]
    have hfin := ((HFA.out.gives).since HBD.out).since HB1.out
    first | exact hfin | (simp only [List.set_cons_zero, List.set_cons_succ]; exact hfin) | (simp; exact hfin)
  case neg =>
    obtain rfl : wn = 0 := by omega
    refine wpAnyH_ready (rs := [5]) (by kernel_rfl) (by simp) (AllReadyH.cons rfl (fun K hK => ?_) AllReadyH.nil)
    go_simp
    go_wp2_with fail
    refine (owing_none 7 wp wcp x7).mono ?_
    rintro e x8 ⟨rfl, hb8⟩
    have hH8 : Hid (Below W1.heap.size W1 x8) := Lib.hid (HH7.out.trans (hb8.mono HH7.out.size))
    have HF8 := Lib.hid (HF7.out.later hb8)
    clear hb8
    go_wp2_with fail
    refine hK.out _ _ hH8 (fun hHeld2 => ?_)
    clear hH8
    clear hK K hHeld
    have hHeld := hHeld2
    clear hHeld2
    try simp only [Act.put, List.setIfInBounds_toArray, List.set_cons_zero, List.set_cons_succ]
    refine wpAnyH_ready (rs := [6]) (by kernel_rfl) (by simp) (AllReadyH.cons rfl (fun K hK => ?_) AllReadyH.nil)
    refine step_append_vals (k := 3) (by decide) Tryd.underlying72 info_step rfl (by omega) rfl (.tmp 12) (.tmp 15) rfl v7 H7.length (flatG sc H7) (by simp [Act.eval]) (own_zero HF8.out.own) none 0 0 (flatG sc []) (by simp [Act.eval]) rfl (fun _ => ⟨rfl, rfl⟩) (fun ad he => by cases he) (flatG_all sc_one _) (by have := HF8.out.most; have := H1.out; omega) ?_
    intro p6 c6 x6 g1 g2 g3
    have h6 := HF8.out.app (m := 0) (H' := []) (S' := []) rfl trivial (fun h hh => by cases hh) g1 g2 g3
    have HFA := Lib.hid h6
    have hH6 : Hid (Below W1.heap.size W1 x6) := Lib.hid (HBD.out.trans (h6.below.mono HBD.out.size))
    clear h6 g1 g2 g3
    refine hK.out _ _ hH6 (fun hHeld2 => ?_)
    clear hH6
    clear hK K hHeld
    have hHeld := hHeld2
    clear hHeld2
    try simp only [Act.put, List.setIfInBounds_toArray, List.set_cons_zero, List.set_cons_succ]
    refine wpAnyH_take (i := 7) (oi := ⟨some 2, _, _, _, _, _⟩) (v := .slice p6 (H7.length + 0) c6) rfl (by kernel_rfl) (by kernel_rfl) (by kernel_rfl) (fun _ _ _ h => h) (Or.inl ⟨by rfl, fun w' hw' => ?_⟩) (by assumption) ?_
    · clear hHeld
      go_simp
    simp only [Act.put, List.setIfInBounds_toArray, List.set_cons_zero, List.set_cons_succ]
    refine wpAnyH_done (by kernel_rfl) ?_ _
    clear hHeld
    go_wp2_with fail
    go_ret
    obtain rfl : M = [] := List.eq_nil_of_length_eq_zero HLM.out
    rw [owes_0]
    have hfin := ((HFA.out.gives).since HBD.out).since HB1.out
    first | exact hfin | (simp only [List.set_cons_zero, List.set_cons_succ]; exact hfin) | (simp only [List.append_nil, Nat.add_zero] at hfin ⊢; exact hfin) | (simp only [List.append_nil, Nat.add_zero, List.set_cons_zero, List.set_cons_succ] at hfin ⊢; exact hfin) | (simp at hfin ⊢; exact hfin)
set_option maxHeartbeats 8000000 in
theorem steps2_p (od po : Int) (lp : Option Addr) (ln lcp : Nat) (tp : Option Addr) (tn tcp : Nat) (wp : Option Addr) (wn wcp : Nat) (sk fr to q : Int) (L : List Ln) (T : List Tk) (M : List Ln) (W : World) (hw : Words W) (hP : PgM W lp ln lcp L tp tn tcp T wp wn wcp M) (hok : Pgok ⟨2, od, po, L, T, M, sk, fr, to, q⟩) (h1 : ln ≤ 400 ∧ tn ≤ 400 ∧ wn ≤ 400) (hg : goodP 4 4 ⟨2, od, po, L, T, M, sk, fr, to, q⟩ = true) :
    Calls Tryd.prog 41 #[.agg #[.int .u8 2, .int .u32 od, .int .u8 po, .slice lp ln lcp, .slice tp tn tcp, .slice wp wn wcp, .int .u8 sk, .int .u8 fr, .int .u8 to, .int .i64 q]] W (GivesS W (stepsP ⟨2, od, po, L, T, M, sk, fr, to, q⟩)) := by
  rw [steps_house (.inr (.inl rfl)) hok.takes hg]
  obtain ⟨W1, hW1, hbx, hb1⟩ : ∃ W1, W.alloc (.cells #[.int .u8 2, .int .u32 od, .int .u8 po, .slice lp ln lcp, .slice tp tn tcp, .slice wp wn wcp, .int .u8 sk, .int .u8 fr, .int .u8 to, .int .i64 q] 28) = W1 ∧ W1.heap[W.heap.size]? = some (.cells #[.int .u8 2, .int .u32 od, .int .u8 po, .slice lp ln lcp, .slice tp tn tcp, .slice wp wn wcp, .int .u8 sk, .int .u8 fr, .int .u8 to, .int .i64 q] 28 (0, 0)) ∧ Below W.heap.size W W1 := ⟨_, rfl, alloc_block W _, (Below.refl _ _).alloc (Nat.le_refl _) _⟩
  have hgd := good_p 4 4 2 od po lp ln lcp tp tn tcp wp wn wcp sk fr to q L T M W1 (hw.later hb1) (hP.later hb1) hok h1
  rw [hg] at hgd
  have HW1 := Lib.hid hW1
  have HB1 := Lib.hid hb1
  have HX := Lib.hid hbx
  have HP := Lib.hid (hP.later hb1)
  have HOK := Lib.hid hok
  have HGG := Lib.hid hg
  have H1 := Lib.hid h1
  have HLM := Lib.hid hP.o.len
  have HC := Lib.hid fun w' (h : Below W1.heap.size W1 w') => prog_cells 2 od po lp ln lcp tp tn tcp wp wn wcp sk fr to q (block_later HX.out h)
  obtain ⟨a0, a1, a2, a3, a4, a5, a6, a7, a8, a9⟩ := HC.out W1 (Below.refl _ _)
  clear hW1 hb1 hbx hP hok hg hw h1
  go_enter Tryd.func41, Tryd.ntmps41
  go_wp2_with fail
  rw [HW1.out]
  refine hgd.mono ?_
  rintro e w2 ⟨rfl, h2⟩
  have HB2 := Lib.hid h2
  clear hgd h2 a0 a1 a2 a3 a4 a5 a6 a7 a8 a9
  obtain ⟨a0, a1, a2, a3, a4, a5, a6, a7, a8, a9⟩ := HC.out w2 HB2.out
  have hbd : Below W1.heap.size W1 w2.drew := HB2.out.drew
  go_wp2_with fail
  refine wp_region_held_drew (S := fun w' => Hid (Below W1.heap.size W1 w')) (by kernel_rfl) (Lib.hid hbd) (fun hHeld => ?_)
  clear hbd
  refine wpAnyH_take (i := 0) (oi := ⟨some 19, _, _, _, _, _⟩) (v := .pointer (some ⟨W.heap.size, 4, none⟩)) rfl (by kernel_rfl) (by kernel_rfl) (by kernel_rfl) (fun _ _ _ h => h) (Or.inl ⟨by rfl, fun w' hw' => ?_⟩) (by assumption) ?_
  · clear hHeld
    go_simp
  simp only [Act.put, List.setIfInBounds_toArray, List.set_cons_zero, List.set_cons_succ]
  refine wpAnyH_take (i := 1) (oi := ⟨some 20, _, _, _, _, _⟩) (v := .slice tp tn tcp) rfl (by kernel_rfl) (by kernel_rfl) (by kernel_rfl) (fun _ _ _ h => h) (Or.inl ⟨by rfl, fun w' hw' => ?_⟩) (by assumption) ?_
  · obtain ⟨g0, g1, g2, g3, g4, g5, g6, g7, g8, g9⟩ := HC.out w' hw'.out
    clear hHeld
    go_simp
  simp only [Act.put, List.setIfInBounds_toArray, List.set_cons_zero, List.set_cons_succ]
  refine wpAnyH_take (i := 3) (oi := ⟨some 22, _, _, _, _, _⟩) (v := .pointer (some ⟨W.heap.size, 5, none⟩)) rfl (by kernel_rfl) (by kernel_rfl) (by kernel_rfl) (fun _ _ _ h => h) (Or.inl ⟨by rfl, fun w' hw' => ?_⟩) (by assumption) ?_
  · clear hHeld
    go_simp
  simp only [Act.put, List.setIfInBounds_toArray, List.set_cons_zero, List.set_cons_succ]
  refine wpAnyH_take (i := 4) (oi := ⟨some 23, _, _, _, _, _⟩) (v := .slice wp wn wcp) rfl (by kernel_rfl) (by kernel_rfl) (by kernel_rfl) (fun _ _ _ h => h) (Or.inl ⟨by rfl, fun w' hw' => ?_⟩) (by assumption) ?_
  · obtain ⟨g0, g1, g2, g3, g4, g5, g6, g7, g8, g9⟩ := HC.out w' hw'.out
    clear hHeld
    go_simp
  simp only [Act.put, List.setIfInBounds_toArray, List.set_cons_zero, List.set_cons_succ]
  clear a0 a1 a2 a3 a4 a5 a6 a7 a8 a9
  generalize w2.drew = Wd at *
  have HBD : Hid (Below W1.heap.size W1 Wd) := hHeld
  refine wpAnyH_ready (rs := [2]) (by kernel_rfl) (by simp) (AllReadyH.cons rfl (fun K hK => ?_) AllReadyH.nil)
  go_simp
  go_wp2_with fail
  refine (houses_any 2 tp tn tcp T _ (HP.out.later HBD.out).t (by have := H1.out; omega)).mono ?_
  rintro e x7 ⟨v7, H7, rfl, hf7⟩
  have hH7 : Hid (Below W1.heap.size W1 x7) := Lib.hid (HBD.out.trans (hf7.below.mono HBD.out.size))
  have HH7 := hH7
  have HF7 := Lib.hid hf7
  clear hf7
  go_wp2_with fail
  refine hK.out _ _ hH7 (fun hHeld2 => ?_)
  clear hH7
  clear hK K hHeld
  have hHeld := hHeld2
  clear hHeld2
  try simp only [Act.put, List.setIfInBounds_toArray, List.set_cons_zero, List.set_cons_succ]
  by_cases hwn : 1 ≤ wn
  case pos =>
    refine wpAnyH_ready (rs := [5]) (by kernel_rfl) (by simp) (AllReadyH.cons rfl (fun K hK => ?_) AllReadyH.nil)
    go_simp
    go_wp2_with fail
    refine (owing_some 8 wp wn wcp M x7 (HP.out.later HH7.out).o hwn (by have := H1.out; omega)).mono ?_
    rintro e x8 ⟨B8, p8, c8, rfl, hx8, hl8, hb8, ha8⟩
    have hH8 : Hid (Below W1.heap.size W1 x8) := Lib.hid (HH7.out.trans (hb8.mono HH7.out.size))
    have HF8 := Lib.hid (HF7.out.later hb8)
    have HNW := Lib.hid (step_news (H := [hsOf 8 0 p8 wn c8]) hx8 rfl)
    have HT8 := Lib.hid (show TellsAll x8 [hsOf 8 0 p8 wn c8] [(8, 0, M)] from ⟨⟨rfl, rfl, hl8⟩, trivial⟩)
    have HAA : Hid (∀ h ∈ [hsOf 8 0 p8 wn c8], 0 < h.2.2.2.1 → ∀ ad, h.2.2.1 = some ad → v7.ownBlock ≠ some ad.block) := Lib.hid fun h hh h0 ad he hb => by
      have hlt := (HF7.out.own.lt ad.block hb).2
      obtain rfl := List.mem_singleton.1 hh
      have := ha8 ad he
      omega
    clear hx8 hl8 hb8 ha8
    go_wp2_with fail
    refine hK.out _ _ hH8 (fun hHeld2 => ?_)
    clear hH8
    clear hK K hHeld
    have hHeld := hHeld2
    clear hHeld2
    try simp only [Act.put, List.setIfInBounds_toArray, List.set_cons_zero, List.set_cons_succ]
    refine wpAnyH_ready (rs := [6]) (by kernel_rfl) (by simp) (AllReadyH.cons rfl (fun K hK => ?_) AllReadyH.nil)
    refine step_append_steps rfl (.tmp 21) (.tmp 24) rfl v7 _ _ _ (by simp [Act.eval]) HF8.out B8 1 [hsOf 8 0 p8 wn c8] [(8, 0, M)] (by simp [Act.eval]) rfl HNW.out HT8.out HAA.out (by have := H1.out; omega) ?_
    intro p6 n6 c6 x6 h6
    have HFA := Lib.hid h6
    have hH6 : Hid (Below W1.heap.size W1 x6) := Lib.hid (HBD.out.trans (h6.below.mono HBD.out.size))
    clear h6
    refine hK.out _ _ hH6 (fun hHeld2 => ?_)
    clear hH6
    clear hK K hHeld
    have hHeld := hHeld2
    clear hHeld2
    try simp only [Act.put, List.setIfInBounds_toArray, List.set_cons_zero, List.set_cons_succ]
    refine wpAnyH_take (i := 7) (oi := ⟨some 2, _, _, _, _, _⟩) (v := .slice p6 n6 c6) rfl (by kernel_rfl) (by kernel_rfl) (by kernel_rfl) (fun _ _ _ h => h) (Or.inl ⟨by rfl, fun w' hw' => ?_⟩) (by assumption) ?_
    · clear hHeld
      go_simp
    simp only [Act.put, List.setIfInBounds_toArray, List.set_cons_zero, List.set_cons_succ]
    refine wpAnyH_done (by kernel_rfl) ?_ _
    clear hHeld
    go_wp2_with fail
    go_ret
    rw [owes_2 (by rw [HLM.out]; exact hwn)]
    have hfin := ((HFA.out.gives).since HBD.out).since HB1.out
    first | exact hfin | (simp only [List.set_cons_zero, List.set_cons_succ]; exact hfin) | (simp; exact hfin)
  case neg =>
    obtain rfl : wn = 0 := by omega
    refine wpAnyH_ready (rs := [5]) (by kernel_rfl) (by simp) (AllReadyH.cons rfl (fun K hK => ?_) AllReadyH.nil)
    go_simp
    go_wp2_with fail
    refine (owing_none 8 wp wcp x7).mono ?_
    rintro e x8 ⟨rfl, hb8⟩
    have hH8 : Hid (Below W1.heap.size W1 x8) := Lib.hid (HH7.out.trans (hb8.mono HH7.out.size))
    have HF8 := Lib.hid (HF7.out.later hb8)
    clear hb8
    go_wp2_with fail
    refine hK.out _ _ hH8 (fun hHeld2 => ?_)
    clear hH8
    clear hK K hHeld
    have hHeld := hHeld2
    clear hHeld2
    try simp only [Act.put, List.setIfInBounds_toArray, List.set_cons_zero, List.set_cons_succ]
    refine wpAnyH_ready (rs := [6]) (by kernel_rfl) (by simp) (AllReadyH.cons rfl (fun K hK => ?_) AllReadyH.nil)
    refine step_append_vals (k := 3) (by decide) Tryd.underlying72 info_step rfl (by omega) rfl (.tmp 21) (.tmp 24) rfl v7 H7.length (flatG sc H7) (by simp [Act.eval]) (own_zero HF8.out.own) none 0 0 (flatG sc []) (by simp [Act.eval]) rfl (fun _ => ⟨rfl, rfl⟩) (fun ad he => by cases he) (flatG_all sc_one _) (by have := HF8.out.most; have := H1.out; omega) ?_
    intro p6 c6 x6 g1 g2 g3
    have h6 := HF8.out.app (m := 0) (H' := []) (S' := []) rfl trivial (fun h hh => by cases hh) g1 g2 g3
    have HFA := Lib.hid h6
    have hH6 : Hid (Below W1.heap.size W1 x6) := Lib.hid (HBD.out.trans (h6.below.mono HBD.out.size))
    clear h6 g1 g2 g3
    refine hK.out _ _ hH6 (fun hHeld2 => ?_)
    clear hH6
    clear hK K hHeld
    have hHeld := hHeld2
    clear hHeld2
    try simp only [Act.put, List.setIfInBounds_toArray, List.set_cons_zero, List.set_cons_succ]
    refine wpAnyH_take (i := 7) (oi := ⟨some 2, _, _, _, _, _⟩) (v := .slice p6 (H7.length + 0) c6) rfl (by kernel_rfl) (by kernel_rfl) (by kernel_rfl) (fun _ _ _ h => h) (Or.inl ⟨by rfl, fun w' hw' => ?_⟩) (by assumption) ?_
    · clear hHeld
      go_simp
    simp only [Act.put, List.setIfInBounds_toArray, List.set_cons_zero, List.set_cons_succ]
    refine wpAnyH_done (by kernel_rfl) ?_ _
    clear hHeld
    go_wp2_with fail
    go_ret
    obtain rfl : M = [] := List.eq_nil_of_length_eq_zero HLM.out
    rw [owes_0]
    have hfin := ((HFA.out.gives).since HBD.out).since HB1.out
    first | exact hfin | (simp only [List.set_cons_zero, List.set_cons_succ]; exact hfin) | (simp only [List.append_nil, Nat.add_zero] at hfin ⊢; exact hfin) | (simp only [List.append_nil, Nat.add_zero, List.set_cons_zero, List.set_cons_succ] at hfin ⊢; exact hfin) | (simp at hfin ⊢; exact hfin)
set_option maxHeartbeats 8000000 in
theorem steps3_p (od po : Int) (lp : Option Addr) (ln lcp : Nat) (tp : Option Addr) (tn tcp : Nat) (wp : Option Addr) (wn wcp : Nat) (sk fr to q : Int) (L : List Ln) (T : List Tk) (M : List Ln) (W : World) (hw : Words W) (hP : PgM W lp ln lcp L tp tn tcp T wp wn wcp M) (hok : Pgok ⟨3, od, po, L, T, M, sk, fr, to, q⟩) (h1 : ln ≤ 400 ∧ tn ≤ 400 ∧ wn ≤ 400) (hg : goodP 4 4 ⟨3, od, po, L, T, M, sk, fr, to, q⟩ = true) :
    Calls Tryd.prog 41 #[.agg #[.int .u8 3, .int .u32 od, .int .u8 po, .slice lp ln lcp, .slice tp tn tcp, .slice wp wn wcp, .int .u8 sk, .int .u8 fr, .int .u8 to, .int .i64 q]] W (GivesS W (stepsP ⟨3, od, po, L, T, M, sk, fr, to, q⟩)) := by
  rw [steps_house (.inr (.inr (.inl rfl))) hok.takes hg, owes_34 (.inl rfl), List.append_nil]
  obtain ⟨W1, hW1, hbx, hb1⟩ : ∃ W1, W.alloc (.cells #[.int .u8 3, .int .u32 od, .int .u8 po, .slice lp ln lcp, .slice tp tn tcp, .slice wp wn wcp, .int .u8 sk, .int .u8 fr, .int .u8 to, .int .i64 q] 28) = W1 ∧ W1.heap[W.heap.size]? = some (.cells #[.int .u8 3, .int .u32 od, .int .u8 po, .slice lp ln lcp, .slice tp tn tcp, .slice wp wn wcp, .int .u8 sk, .int .u8 fr, .int .u8 to, .int .i64 q] 28 (0, 0)) ∧ Below W.heap.size W W1 := ⟨_, rfl, alloc_block W _, (Below.refl _ _).alloc (Nat.le_refl _) _⟩
  have hgd := good_p 4 4 3 od po lp ln lcp tp tn tcp wp wn wcp sk fr to q L T M W1 (hw.later hb1) (hP.later hb1) hok h1
  rw [hg] at hgd
  have HW1 := Lib.hid hW1
  have HB1 := Lib.hid hb1
  have HX := Lib.hid hbx
  have HP := Lib.hid (hP.later hb1)
  have HOK := Lib.hid hok
  have HGG := Lib.hid hg
  have H1 := Lib.hid h1
  have HLM := Lib.hid hP.o.len
  have HC := Lib.hid fun w' (h : Below W1.heap.size W1 w') => prog_cells 3 od po lp ln lcp tp tn tcp wp wn wcp sk fr to q (block_later HX.out h)
  obtain ⟨a0, a1, a2, a3, a4, a5, a6, a7, a8, a9⟩ := HC.out W1 (Below.refl _ _)
  clear hW1 hb1 hbx hP hok hg hw h1
  go_enter Tryd.func41, Tryd.ntmps41
  go_wp2_with fail
  rw [HW1.out]
  refine hgd.mono ?_
  rintro e w2 ⟨rfl, h2⟩
  have HB2 := Lib.hid h2
  clear hgd h2 a0 a1 a2 a3 a4 a5 a6 a7 a8 a9
  obtain ⟨a0, a1, a2, a3, a4, a5, a6, a7, a8, a9⟩ := HC.out w2 HB2.out
  go_wp2_with fail
  refine (houses_any 3 tp tn tcp T w2 (HP.out.later HB2.out).t (by have := H1.out; omega)).mono ?_
  rintro e w3 ⟨v, H, rfl, hf⟩
  have HF := Lib.hid (hf.gives)
  clear hf a0 a1 a2 a3 a4 a5 a6 a7 a8 a9
  go_wp2_with fail
  go_ret
  exact (HF.out.since HB2.out).since HB1.out
set_option maxHeartbeats 8000000 in
theorem steps4_p (od po : Int) (lp : Option Addr) (ln lcp : Nat) (tp : Option Addr) (tn tcp : Nat) (wp : Option Addr) (wn wcp : Nat) (sk fr to q : Int) (L : List Ln) (T : List Tk) (M : List Ln) (W : World) (hw : Words W) (hP : PgM W lp ln lcp L tp tn tcp T wp wn wcp M) (hok : Pgok ⟨4, od, po, L, T, M, sk, fr, to, q⟩) (h1 : ln ≤ 400 ∧ tn ≤ 400 ∧ wn ≤ 400) (hg : goodP 4 4 ⟨4, od, po, L, T, M, sk, fr, to, q⟩ = true) :
    Calls Tryd.prog 41 #[.agg #[.int .u8 4, .int .u32 od, .int .u8 po, .slice lp ln lcp, .slice tp tn tcp, .slice wp wn wcp, .int .u8 sk, .int .u8 fr, .int .u8 to, .int .i64 q]] W (GivesS W (stepsP ⟨4, od, po, L, T, M, sk, fr, to, q⟩)) := by
  rw [steps_house (.inr (.inr (.inr rfl))) hok.takes hg, owes_34 (.inr rfl), List.append_nil]
  obtain ⟨W1, hW1, hbx, hb1⟩ : ∃ W1, W.alloc (.cells #[.int .u8 4, .int .u32 od, .int .u8 po, .slice lp ln lcp, .slice tp tn tcp, .slice wp wn wcp, .int .u8 sk, .int .u8 fr, .int .u8 to, .int .i64 q] 28) = W1 ∧ W1.heap[W.heap.size]? = some (.cells #[.int .u8 4, .int .u32 od, .int .u8 po, .slice lp ln lcp, .slice tp tn tcp, .slice wp wn wcp, .int .u8 sk, .int .u8 fr, .int .u8 to, .int .i64 q] 28 (0, 0)) ∧ Below W.heap.size W W1 := ⟨_, rfl, alloc_block W _, (Below.refl _ _).alloc (Nat.le_refl _) _⟩
  have hgd := good_p 4 4 4 od po lp ln lcp tp tn tcp wp wn wcp sk fr to q L T M W1 (hw.later hb1) (hP.later hb1) hok h1
  rw [hg] at hgd
  have HW1 := Lib.hid hW1
  have HB1 := Lib.hid hb1
  have HX := Lib.hid hbx
  have HP := Lib.hid (hP.later hb1)
  have HOK := Lib.hid hok
  have HGG := Lib.hid hg
  have H1 := Lib.hid h1
  have HLM := Lib.hid hP.o.len
  have HC := Lib.hid fun w' (h : Below W1.heap.size W1 w') => prog_cells 4 od po lp ln lcp tp tn tcp wp wn wcp sk fr to q (block_later HX.out h)
  obtain ⟨a0, a1, a2, a3, a4, a5, a6, a7, a8, a9⟩ := HC.out W1 (Below.refl _ _)
  clear hW1 hb1 hbx hP hok hg hw h1
  go_enter Tryd.func41, Tryd.ntmps41
  go_wp2_with fail
  rw [HW1.out]
  refine hgd.mono ?_
  rintro e w2 ⟨rfl, h2⟩
  have HB2 := Lib.hid h2
  clear hgd h2 a0 a1 a2 a3 a4 a5 a6 a7 a8 a9
  obtain ⟨a0, a1, a2, a3, a4, a5, a6, a7, a8, a9⟩ := HC.out w2 HB2.out
  go_wp2_with fail
  refine (houses_any 4 tp tn tcp T w2 (HP.out.later HB2.out).t (by have := H1.out; omega)).mono ?_
  rintro e w3 ⟨v, H, rfl, hf⟩
  have HF := Lib.hid (hf.gives)
  clear hf a0 a1 a2 a3 a4 a5 a6 a7 a8 a9
  go_wp2_with fail
  go_ret
  exact (HF.out.since HB2.out).since HB1.out
set_option maxHeartbeats 8000000 in
theorem steps5_p (od po : Int) (lp : Option Addr) (ln lcp : Nat) (tp : Option Addr) (tn tcp : Nat) (wp : Option Addr) (wn wcp : Nat) (sk fr to q : Int) (L : List Ln) (T : List Tk) (M : List Ln) (W : World) (hw : Words W) (hP : PgM W lp ln lcp L tp tn tcp T wp wn wcp M) (hok : Pgok ⟨5, od, po, L, T, M, sk, fr, to, q⟩) (h1 : ln ≤ 400 ∧ tn ≤ 400 ∧ wn ≤ 400) (hg : goodP 4 4 ⟨5, od, po, L, T, M, sk, fr, to, q⟩ = true) :
    Calls Tryd.prog 41 #[.agg #[.int .u8 5, .int .u32 od, .int .u8 po, .slice lp ln lcp, .slice tp tn tcp, .slice wp wn wcp, .int .u8 sk, .int .u8 fr, .int .u8 to, .int .i64 q]] W (GivesS W (stepsP ⟨5, od, po, L, T, M, sk, fr, to, q⟩)) := by
  obtain ⟨W1, hW1, hbx, hb1⟩ : ∃ W1, W.alloc (.cells #[.int .u8 5, .int .u32 od, .int .u8 po, .slice lp ln lcp, .slice tp tn tcp, .slice wp wn wcp, .int .u8 sk, .int .u8 fr, .int .u8 to, .int .i64 q] 28) = W1 ∧ W1.heap[W.heap.size]? = some (.cells #[.int .u8 5, .int .u32 od, .int .u8 po, .slice lp ln lcp, .slice tp tn tcp, .slice wp wn wcp, .int .u8 sk, .int .u8 fr, .int .u8 to, .int .i64 q] 28 (0, 0)) ∧ Below W.heap.size W W1 := ⟨_, rfl, alloc_block W _, (Below.refl _ _).alloc (Nat.le_refl _) _⟩
  have hgd := good_p 4 4 5 od po lp ln lcp tp tn tcp wp wn wcp sk fr to q L T M W1 (hw.later hb1) (hP.later hb1) hok h1
  rw [hg] at hgd
  have HW1 := Lib.hid hW1
  have HB1 := Lib.hid hb1
  have HX := Lib.hid hbx
  have HP := Lib.hid (hP.later hb1)
  have HOK := Lib.hid hok
  have HGG := Lib.hid hg
  have H1 := Lib.hid h1
  have HLM := Lib.hid hP.o.len
  have HC := Lib.hid fun w' (h : Below W1.heap.size W1 w') => prog_cells 5 od po lp ln lcp tp tn tcp wp wn wcp sk fr to q (block_later HX.out h)
  obtain ⟨a0, a1, a2, a3, a4, a5, a6, a7, a8, a9⟩ := HC.out W1 (Below.refl _ _)
  clear hW1 hb1 hbx hP hok hg hw h1
  go_enter Tryd.func41, Tryd.ntmps41
  go_wp2_with fail
  rw [HW1.out]
  refine hgd.mono ?_
  rintro e w2 ⟨rfl, h2⟩
  have HB2 := Lib.hid h2
  clear hgd h2 a0 a1 a2 a3 a4 a5 a6 a7 a8 a9
  obtain ⟨a0, a1, a2, a3, a4, a5, a6, a7, a8, a9⟩ := HC.out w2 HB2.out
  have hrs := restock_any od po lp ln lcp tp tn tcp wp wn wcp sk fr to q L T M w2 (HP.out.later HB2.out) HOK.out H1.out HGG.out
  go_wp2_with fail
  refine hrs.mono ?_
  rintro e w3 h3
  obtain ⟨p, c, H, rfl, hs, hb⟩ := h3
  have HF : Hid (GivesS w2 (stepsP ⟨5, od, po, L, T, M, sk, fr, to, q⟩) (.returned (.slice p (stepsP ⟨5, od, po, L, T, M, sk, fr, to, q⟩).length c)) w3) := Lib.hid ⟨p, c, H, rfl, hs, hb⟩
  clear hrs hs hb a0 a1 a2 a3 a4 a5 a6 a7 a8 a9
  generalize stepsP ⟨5, od, po, L, T, M, sk, fr, to, q⟩ = SS at *
  go_wp2_with fail
  go_ret
  exact (HF.out.since HB2.out).since HB1.out
set_option maxHeartbeats 8000000 in
theorem steps6_p (od po : Int) (lp : Option Addr) (ln lcp : Nat) (tp : Option Addr) (tn tcp : Nat) (wp : Option Addr) (wn wcp : Nat) (sk fr to q : Int) (L : List Ln) (T : List Tk) (M : List Ln) (W : World) (hw : Words W) (hP : PgM W lp ln lcp L tp tn tcp T wp wn wcp M) (hok : Pgok ⟨6, od, po, L, T, M, sk, fr, to, q⟩) (h1 : ln ≤ 400 ∧ tn ≤ 400 ∧ wn ≤ 400) (hg : goodP 4 4 ⟨6, od, po, L, T, M, sk, fr, to, q⟩ = true) :
    Calls Tryd.prog 41 #[.agg #[.int .u8 6, .int .u32 od, .int .u8 po, .slice lp ln lcp, .slice tp tn tcp, .slice wp wn wcp, .int .u8 sk, .int .u8 fr, .int .u8 to, .int .i64 q]] W (GivesS W (stepsP ⟨6, od, po, L, T, M, sk, fr, to, q⟩)) := by
  rw [steps_six od po L T M sk fr to q hg]
  obtain ⟨W1, hW1, hbx, hb1⟩ : ∃ W1, W.alloc (.cells #[.int .u8 6, .int .u32 od, .int .u8 po, .slice lp ln lcp, .slice tp tn tcp, .slice wp wn wcp, .int .u8 sk, .int .u8 fr, .int .u8 to, .int .i64 q] 28) = W1 ∧ W1.heap[W.heap.size]? = some (.cells #[.int .u8 6, .int .u32 od, .int .u8 po, .slice lp ln lcp, .slice tp tn tcp, .slice wp wn wcp, .int .u8 sk, .int .u8 fr, .int .u8 to, .int .i64 q] 28 (0, 0)) ∧ Below W.heap.size W W1 := ⟨_, rfl, alloc_block W _, (Below.refl _ _).alloc (Nat.le_refl _) _⟩
  have hgd := good_p 4 4 6 od po lp ln lcp tp tn tcp wp wn wcp sk fr to q L T M W1 (hw.later hb1) (hP.later hb1) hok h1
  rw [hg] at hgd
  have HW1 := Lib.hid hW1
  have HB1 := Lib.hid hb1
  have HX := Lib.hid hbx
  have HP := Lib.hid (hP.later hb1)
  have HOK := Lib.hid hok
  have HGG := Lib.hid hg
  have H1 := Lib.hid h1
  have HLM := Lib.hid hP.o.len
  have HC := Lib.hid fun w' (h : Below W1.heap.size W1 w') => prog_cells 6 od po lp ln lcp tp tn tcp wp wn wcp sk fr to q (block_later HX.out h)
  obtain ⟨a0, a1, a2, a3, a4, a5, a6, a7, a8, a9⟩ := HC.out W1 (Below.refl _ _)
  clear hW1 hb1 hbx hP hok hg hw h1
  go_enter Tryd.func41, Tryd.ntmps41
  go_wp2_with fail
  rw [HW1.out]
  refine hgd.mono ?_
  rintro e w2 ⟨rfl, h2⟩
  have HB2 := Lib.hid h2
  clear hgd h2 a0 a1 a2 a3 a4 a5 a6 a7 a8 a9
  obtain ⟨a0, a1, a2, a3, a4, a5, a6, a7, a8, a9⟩ := HC.out w2 HB2.out
  have hbd : Below W1.heap.size W1 w2.drew := HB2.out.drew
  go_wp2_with fail
  refine wp_region_held_drew (S := fun w' => Hid (Below W1.heap.size W1 w')) (by kernel_rfl) (Lib.hid hbd) (fun hHeld => ?_)
  clear hbd
  refine wpAnyH_take (i := 0) (oi := ⟨some 40, _, _, _, _, _⟩) (v := .pointer (some ⟨W.heap.size, 7, none⟩)) rfl (by kernel_rfl) (by kernel_rfl) (by kernel_rfl) (fun _ _ _ h => h) (Or.inl ⟨by rfl, fun w' hw' => ?_⟩) (by assumption) ?_
  · clear hHeld
    go_simp
  simp only [Act.put, List.setIfInBounds_toArray, List.set_cons_zero, List.set_cons_succ]
  refine wpAnyH_take (i := 1) (oi := ⟨some 41, _, _, _, _, _⟩) (v := .int .u8 fr) rfl (by kernel_rfl) (by kernel_rfl) (by kernel_rfl) (fun _ _ _ h => h) (Or.inl ⟨by rfl, fun w' hw' => ?_⟩) (by assumption) ?_
  · obtain ⟨g0, g1, g2, g3, g4, g5, g6, g7, g8, g9⟩ := HC.out w' hw'.out
    clear hHeld
    go_simp
  simp only [Act.put, List.setIfInBounds_toArray, List.set_cons_zero, List.set_cons_succ]
  refine wpAnyH_take (i := 2) (oi := ⟨some 42, _, _, _, _, _⟩) (v := .pointer (some ⟨W.heap.size, 6, none⟩)) rfl (by kernel_rfl) (by kernel_rfl) (by kernel_rfl) (fun _ _ _ h => h) (Or.inl ⟨by rfl, fun w' hw' => ?_⟩) (by assumption) ?_
  · clear hHeld
    go_simp
  simp only [Act.put, List.setIfInBounds_toArray, List.set_cons_zero, List.set_cons_succ]
  refine wpAnyH_take (i := 3) (oi := ⟨some 43, _, _, _, _, _⟩) (v := .int .u8 sk) rfl (by kernel_rfl) (by kernel_rfl) (by kernel_rfl) (fun _ _ _ h => h) (Or.inl ⟨by rfl, fun w' hw' => ?_⟩) (by assumption) ?_
  · obtain ⟨g0, g1, g2, g3, g4, g5, g6, g7, g8, g9⟩ := HC.out w' hw'.out
    clear hHeld
    go_simp
  simp only [Act.put, List.setIfInBounds_toArray, List.set_cons_zero, List.set_cons_succ]
  refine wpAnyH_take (i := 4) (oi := ⟨some 44, _, _, _, _, _⟩) (v := .pointer (some ⟨W.heap.size, 9, none⟩)) rfl (by kernel_rfl) (by kernel_rfl) (by kernel_rfl) (fun _ _ _ h => h) (Or.inl ⟨by rfl, fun w' hw' => ?_⟩) (by assumption) ?_
  · clear hHeld
    go_simp
  simp only [Act.put, List.setIfInBounds_toArray, List.set_cons_zero, List.set_cons_succ]
  refine wpAnyH_take (i := 5) (oi := ⟨some 45, _, _, _, _, _⟩) (v := .int .i64 q) rfl (by kernel_rfl) (by kernel_rfl) (by kernel_rfl) (fun _ _ _ h => h) (Or.inl ⟨by rfl, fun w' hw' => ?_⟩) (by assumption) ?_
  · obtain ⟨g0, g1, g2, g3, g4, g5, g6, g7, g8, g9⟩ := HC.out w' hw'.out
    clear hHeld
    go_simp
  simp only [Act.put, List.setIfInBounds_toArray, List.set_cons_zero, List.set_cons_succ]
  refine wpAnyH_take (i := 7) (oi := ⟨some 47, _, _, _, _, _⟩) (v := .pointer (some ⟨W.heap.size, 8, none⟩)) rfl (by kernel_rfl) (by kernel_rfl) (by kernel_rfl) (fun _ _ _ h => h) (Or.inl ⟨by rfl, fun w' hw' => ?_⟩) (by assumption) ?_
  · clear hHeld
    go_simp
  simp only [Act.put, List.setIfInBounds_toArray, List.set_cons_zero, List.set_cons_succ]
  refine wpAnyH_take (i := 8) (oi := ⟨some 48, _, _, _, _, _⟩) (v := .int .u8 to) rfl (by kernel_rfl) (by kernel_rfl) (by kernel_rfl) (fun _ _ _ h => h) (Or.inl ⟨by rfl, fun w' hw' => ?_⟩) (by assumption) ?_
  · obtain ⟨g0, g1, g2, g3, g4, g5, g6, g7, g8, g9⟩ := HC.out w' hw'.out
    clear hHeld
    go_simp
  simp only [Act.put, List.setIfInBounds_toArray, List.set_cons_zero, List.set_cons_succ]
  refine wpAnyH_take (i := 9) (oi := ⟨some 49, _, _, _, _, _⟩) (v := .pointer (some ⟨W.heap.size, 6, none⟩)) rfl (by kernel_rfl) (by kernel_rfl) (by kernel_rfl) (fun _ _ _ h => h) (Or.inl ⟨by rfl, fun w' hw' => ?_⟩) (by assumption) ?_
  · clear hHeld
    go_simp
  simp only [Act.put, List.setIfInBounds_toArray, List.set_cons_zero, List.set_cons_succ]
  refine wpAnyH_take (i := 10) (oi := ⟨some 50, _, _, _, _, _⟩) (v := .int .u8 sk) rfl (by kernel_rfl) (by kernel_rfl) (by kernel_rfl) (fun _ _ _ h => h) (Or.inl ⟨by rfl, fun w' hw' => ?_⟩) (by assumption) ?_
  · obtain ⟨g0, g1, g2, g3, g4, g5, g6, g7, g8, g9⟩ := HC.out w' hw'.out
    clear hHeld
    go_simp
  simp only [Act.put, List.setIfInBounds_toArray, List.set_cons_zero, List.set_cons_succ]
  refine wpAnyH_take (i := 11) (oi := ⟨some 51, _, _, _, _, _⟩) (v := .pointer (some ⟨W.heap.size, 9, none⟩)) rfl (by kernel_rfl) (by kernel_rfl) (by kernel_rfl) (fun _ _ _ h => h) (Or.inl ⟨by rfl, fun w' hw' => ?_⟩) (by assumption) ?_
  · clear hHeld
    go_simp
  simp only [Act.put, List.setIfInBounds_toArray, List.set_cons_zero, List.set_cons_succ]
  refine wpAnyH_take (i := 12) (oi := ⟨some 52, _, _, _, _, _⟩) (v := .int .i64 q) rfl (by kernel_rfl) (by kernel_rfl) (by kernel_rfl) (fun _ _ _ h => h) (Or.inl ⟨by rfl, fun w' hw' => ?_⟩) (by assumption) ?_
  · obtain ⟨g0, g1, g2, g3, g4, g5, g6, g7, g8, g9⟩ := HC.out w' hw'.out
    clear hHeld
    go_simp
  simp only [Act.put, List.setIfInBounds_toArray, List.set_cons_zero, List.set_cons_succ]
  clear a0 a1 a2 a3 a4 a5 a6 a7 a8 a9
  generalize w2.drew = Wd at *
  refine wpAnyH_ready (rs := [6]) (by kernel_rfl) (by simp) (AllReadyH.cons rfl (fun K hK => ?_) AllReadyH.nil)
  go_simp
  go_wp2_with fail
  refine (single_st 6 fr sk q _).mono ?_
  rintro e x7 ⟨p7, c7, rfl, hl7, hb7, ha7⟩
  have hH7 : Hid (Below W1.heap.size W1 x7) := Lib.hid (hHeld.out.trans (hb7.mono hHeld.out.size))
  have HL7 := Lib.hid hl7
  have HAP7 := Lib.hid ha7
  have HBB7 := Lib.hid hb7
  clear hl7 hb7 ha7
  go_wp2_with fail
  refine hK.out _ _ hH7 (fun hHeld2 => ?_)
  clear hH7
  clear hK K hHeld
  have hHeld := hHeld2
  clear hHeld2
  try simp only [Act.put, List.setIfInBounds_toArray, List.set_cons_zero, List.set_cons_succ]
  have HQ7 : Hid (Below W1.heap.size W1 x7) := hHeld
  refine wpAnyH_ready (rs := [13]) (by kernel_rfl) (by simp) (AllReadyH.cons rfl (fun K hK => ?_) AllReadyH.nil)
  go_simp
  go_wp2_with fail
  refine (single_st 5 to sk q _).mono ?_
  rintro e x8 ⟨p8, c8, rfl, hl8, hb8, ha8⟩
  have hH8 : Hid (Below W1.heap.size W1 x8) := Lib.hid (hHeld.out.trans (hb8.mono hHeld.out.size))
  have HL8 := Lib.hid hl8
  have HAP8 := Lib.hid ha8
  have HBB8 := Lib.hid hb8
  clear hl8 hb8 ha8
  go_wp2_with fail
  refine hK.out _ _ hH8 (fun hHeld2 => ?_)
  clear hH8
  clear hK K hHeld
  have hHeld := hHeld2
  clear hHeld2
  try simp only [Act.put, List.setIfInBounds_toArray, List.set_cons_zero, List.set_cons_succ]
  have HQ8 : Hid (Below W1.heap.size W1 x8) := hHeld
  refine wpAnyH_ready (rs := [14]) (by kernel_rfl) (by simp) (AllReadyH.cons rfl (fun K hK => ?_) AllReadyH.nil)
  go_simp
  have hFA : FillS W1 (x8.alloc (.cells #[.int .u8 6, .int .u8 fr, .slice p7 1 c7, .int .u8 5, .int .u8 to, .slice p8 1 c8] 76)) (.slice (some ⟨x8.heap.size, 0, none⟩) 2 2) [hsOf 6 fr p7 1 c7, hsOf 5 to p8 1 c8] [(6, fr, [(sk, q)]), (5, to, [(sk, q)])] 2 := FillS.lit (m := 2) HQ8.out rfl rfl (by omega) ⟨⟨rfl, rfl, HL7.out.later HBB8.out⟩, ⟨rfl, rfl, HL8.out⟩, trivial⟩
  have HFA := Lib.hid hFA
  have hH9 := Lib.hid hFA.below
  clear hFA
  refine hK.out _ _ hH9 (fun hHeld2 => ?_)
  clear hH9
  clear hK K hHeld
  have hHeld := hHeld2
  clear hHeld2
  try simp only [Act.put, List.setIfInBounds_toArray, List.set_cons_zero, List.set_cons_succ]
  refine wpAnyH_take (i := 15) (oi := ⟨some 2, _, _, _, _, _⟩) (v := .slice (some ⟨x8.heap.size, 0, none⟩) 2 2) rfl (by kernel_rfl) (by kernel_rfl) (by kernel_rfl) (fun _ _ _ h => h) (Or.inl ⟨by rfl, fun w' hw' => ?_⟩) (by assumption) ?_
  · clear hHeld
    go_simp
  simp only [Act.put, List.setIfInBounds_toArray, List.set_cons_zero, List.set_cons_succ]
  refine wpAnyH_done (by kernel_rfl) ?_ _
  clear hHeld
  go_wp2_with fail
  go_ret
  have hfin := (HFA.out.gives).since HB1.out
  first | exact hfin | (simp only [List.set_cons_zero, List.set_cons_succ]; exact hfin) | (simp; exact hfin)
set_option maxHeartbeats 4000000 in
theorem steps_p (k od po : Int) (lp : Option Addr) (ln lcp : Nat) (tp : Option Addr) (tn tcp : Nat) (wp : Option Addr) (wn wcp : Nat) (sk fr to q : Int) (L : List Ln) (T : List Tk) (M : List Ln) (W : World) (hw : Words W) (hP : PgM W lp ln lcp L tp tn tcp T wp wn wcp M) (hok : Pgok ⟨k, od, po, L, T, M, sk, fr, to, q⟩) (h1 : ln ≤ 400 ∧ tn ≤ 400 ∧ wn ≤ 400) :
    Calls Tryd.prog 41 #[.agg #[.int .u8 k, .int .u32 od, .int .u8 po, .slice lp ln lcp, .slice tp tn tcp, .slice wp wn wcp, .int .u8 sk, .int .u8 fr, .int .u8 to, .int .i64 q]] W (GivesS W (stepsP ⟨k, od, po, L, T, M, sk, fr, to, q⟩)) := by
  cases hg : goodP 4 4 ⟨k, od, po, L, T, M, sk, fr, to, q⟩ with
  | false =>
    rw [steps_no hg]
    obtain ⟨W1, hW1, hbx, hb1⟩ : ∃ W1, W.alloc (.cells #[.int .u8 k, .int .u32 od, .int .u8 po, .slice lp ln lcp, .slice tp tn tcp, .slice wp wn wcp, .int .u8 sk, .int .u8 fr, .int .u8 to, .int .i64 q] 28) = W1 ∧ W1.heap[W.heap.size]? = some (.cells #[.int .u8 k, .int .u32 od, .int .u8 po, .slice lp ln lcp, .slice tp tn tcp, .slice wp wn wcp, .int .u8 sk, .int .u8 fr, .int .u8 to, .int .i64 q] 28 (0, 0)) ∧ Below W.heap.size W W1 := ⟨_, rfl, alloc_block W _, (Below.refl _ _).alloc (Nat.le_refl _) _⟩
    have hgd := good_p 4 4 k od po lp ln lcp tp tn tcp wp wn wcp sk fr to q L T M W1 (hw.later hb1) (hP.later hb1) hok h1
    rw [hg] at hgd
    have HW1 := Lib.hid hW1
    have HB1 := Lib.hid hb1
    obtain ⟨a0, a1, a2, a3, a4, a5, a6, a7, a8, a9⟩ := prog_cells k od po lp ln lcp tp tn tcp wp wn wcp sk fr to q hbx
    clear hW1 hb1 hbx hP hok hg hw h1
    go_enter Tryd.func41, Tryd.ntmps41
    go_wp2_with fail
    rw [HW1.out]
    refine hgd.mono ?_
    rintro e w2 ⟨rfl, h2⟩
    have HB2 := Lib.hid h2
    clear hgd h2 a0 a1 a2 a3 a4 a5 a6 a7 a8 a9
    go_wp2_with fail
    go_ret
    exact gives_none (HB1.out.trans (HB2.out.mono HB1.out.size))
  | true =>
    by_cases k1 : k = 1
    · subst k1
      exact steps1_p od po lp ln lcp tp tn tcp wp wn wcp sk fr to q L T M W hw hP hok h1 hg
    by_cases k2 : k = 2
    · subst k2
      exact steps2_p od po lp ln lcp tp tn tcp wp wn wcp sk fr to q L T M W hw hP hok h1 hg
    by_cases k3 : k = 3
    · subst k3
      exact steps3_p od po lp ln lcp tp tn tcp wp wn wcp sk fr to q L T M W hw hP hok h1 hg
    by_cases k4 : k = 4
    · subst k4
      exact steps4_p od po lp ln lcp tp tn tcp wp wn wcp sk fr to q L T M W hw hP hok h1 hg
    by_cases k5 : k = 5
    · subst k5
      exact steps5_p od po lp ln lcp tp tn tcp wp wn wcp sk fr to q L T M W hw hP hok h1 hg
    by_cases k6 : k = 6
    · subst k6
      exact steps6_p od po lp ln lcp tp tn tcp wp wn wcp sk fr to q L T M W hw hP hok h1 hg
    have := goodP_kind (s := 4) (w := 4) (P := ⟨k, od, po, L, T, M, sk, fr, to, q⟩) ⟨k1, k2, k3, k4, k5, k6⟩
    rw [hg] at this
    cases this
end Go.Proofs.YtdcanppiiikjgaaDoor
