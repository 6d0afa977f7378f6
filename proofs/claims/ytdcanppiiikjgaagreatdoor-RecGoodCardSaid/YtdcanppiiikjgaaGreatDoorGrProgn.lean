/- A program encoded: the program's way. -/
/- The chapter's example; few things. -/
import Derived.Test.YtdcanppiiikjgaaGreatDoorGrProgd
import Derived.Test.YtdcanppiiikjgaaGreatDoorGrProgl
namespace Go.Proofs.YtdcanppiiikjgaaGreatDoor
open Go.RowKit Go.ChangeShapes Go.WideShapes
set_option linter.unusedVariables false
set_option linter.unusedSimpArgs false
set_option maxRecDepth 10000

/-- A program that may be is small. -/
theorem good_small {s w : Int} {P : Pg} (h : goodP s w P = true) : P.lines.length ≤ 3 ∧ P.takes.length ≤ 12 ∧ P.owes.length ≤ 3 := by
  unfold goodP at h
  simp only [Bool.and_eq_true, decide_eq_true_eq] at h
  obtain ⟨⟨_, ha⟩, hq⟩ := h
  have hl : ∀ {s : Int} {L : List Ln}, linesB s L = true → L.length ≤ 3 := fun h => (lines_parts h).1
  have ht : ∀ {s w o : Int} {T : List Tk}, takesB s w o T = true → T.length ≤ 12 := fun h => ((takes_iff _ _ _ _).1 h).1
  unfold askP at ha
  unfold qofP at hq
  split at ha
  · rename_i h1
    simp only [Bool.and_eq_true] at ha
    exact ⟨hl ha.1.1.1.1.2, ht ha.1.1.1.2, hl ha.1.1.2⟩
  · rename_i n1
    rw [if_neg n1] at hq
    split at ha
    · rename_i h2
      rw [if_pos h2] at hq
      simp only [Bool.and_eq_true] at ha
      have := congrArg (fun P => P.lines.length) hq
      simp only [List.length_nil] at this
      exact ⟨by omega, ht ha.1.1.2, hl ha.1.2⟩
    · rename_i n2
      rw [if_neg n2] at hq
      split at ha
      · rename_i h3
        rw [if_pos h3] at hq
        simp only [Bool.and_eq_true] at ha
        have h1 := congrArg (fun P => P.lines.length) hq
        have h2 := congrArg (fun P => P.owes.length) hq
        simp only [List.length_nil] at h1 h2
        exact ⟨by omega, ht ha.1.2, by omega⟩
      · rename_i n3
        rw [if_neg n3] at hq
        split at ha
        · rename_i h5
          rw [if_pos h5] at hq
          simp only [Bool.and_eq_true] at ha
          have h1 := congrArg (fun P => P.lines.length) hq
          have h2 := congrArg (fun P => P.owes.length) hq
          simp only [List.length_nil] at h1 h2
          have h3 := ha.2
          refine ⟨by omega, ?_, by omega⟩
          by_cases hT : P.takes.length ≤ 12
          · exact hT
          · rw [fills_long hT] at h3
            cases h3
        · rename_i n5
          rw [if_neg n5] at hq
          have h1 := congrArg (fun P => P.lines.length) hq
          have h2 := congrArg (fun P => P.owes.length) hq
          have h3 := congrArg (fun P => P.takes.length) hq
          simp only [List.length_nil] at h1 h2 h3
          omega
/-- What Encode hands back. -/
def GivesY (W : World) (P : Pg) (e : Ending) (w' : World) : Prop := Below W.heap.size W w' ∧ if goodP 4 4 P = true then ∃ p c, e = .returned (.tuple #[.slice p (bytesP P).length c, .int .i64 0]) ∧ Sl w' p (bytesP P).length c (bytesP P) ∧ c ≤ maxLen ∧ ∀ a, p = some a → W.heap.size ≤ a.block else e = .returned (.tuple #[.slice none 0 0, .int .i64 1])
set_option maxHeartbeats 8000000 in
theorem encode_no (k od po : Int) (lp : Option Addr) (ln lcp : Nat) (tp : Option Addr) (tn tcp : Nat) (wp : Option Addr) (wn wcp : Nat) (sk fr to q : Int) (L : List Ln) (T : List Tk) (M : List Ln) (W : World) (hw : Words W) (hP : PgM W lp ln lcp L tp tn tcp T wp wn wcp M) (hok : Pgok ⟨k, od, po, L, T, M, sk, fr, to, q⟩) (h1 : ln ≤ 400 ∧ tn ≤ 400 ∧ wn ≤ 400) (hg : goodP 4 4 ⟨k, od, po, L, T, M, sk, fr, to, q⟩ = false) :
    Calls Tryz.prog 55 #[.agg #[.int .u8 k, .int .u32 od, .int .u8 po, .slice lp ln lcp, .slice tp tn tcp, .slice wp wn wcp, .int .u8 sk, .int .u8 fr, .int .u8 to, .int .i64 q]] W (GivesY W ⟨k, od, po, L, T, M, sk, fr, to, q⟩) := by
  obtain ⟨W1, hW1, hbx, hb1⟩ : ∃ W1, W.alloc (.cells #[.int .u8 k, .int .u32 od, .int .u8 po, .slice lp ln lcp, .slice tp tn tcp, .slice wp wn wcp, .int .u8 sk, .int .u8 fr, .int .u8 to, .int .i64 q] 28) = W1 ∧ W1.heap[W.heap.size]? = some (.cells #[.int .u8 k, .int .u32 od, .int .u8 po, .slice lp ln lcp, .slice tp tn tcp, .slice wp wn wcp, .int .u8 sk, .int .u8 fr, .int .u8 to, .int .i64 q] 28 (0, 0)) ∧ Below W.heap.size W W1 := ⟨_, rfl, alloc_block W _, (Below.refl _ _).alloc (Nat.le_refl _) _⟩
  have hgd := good_p 4 4 k od po lp ln lcp tp tn tcp wp wn wcp sk fr to q L T M W1 (hw.later hb1) (hP.later hb1) hok h1
  rw [hg] at hgd
  have HG := Lib.hid hg
  have HW1 := Lib.hid hW1
  have HB1 := Lib.hid hb1
  obtain ⟨a0, a1, a2, a3, a4, a5, a6, a7, a8, a9⟩ := prog_cells k od po lp ln lcp tp tn tcp wp wn wcp sk fr to q hbx
  clear hW1 hb1 hbx hP hok hg hw h1
  go_enter Tryz.func55, Tryz.ntmps55
  go_wp2_with fail
  rw [HW1.out]
  refine hgd.mono ?_
  rintro e w2 ⟨rfl, h2⟩
  have HB2 := Lib.hid h2
  clear hgd h2 a0 a1 a2 a3 a4 a5 a6 a7 a8 a9
  go_wp2_with fail
  go_ret2
  refine ⟨HB1.out.trans (HB2.out.mono HB1.out.size), ?_⟩
  rw [HG.out, if_neg (by decide)]
  rfl
set_option maxHeartbeats 16000000 in
theorem encode_yes (k od po : Int) (lp : Option Addr) (ln lcp : Nat) (tp : Option Addr) (tn tcp : Nat) (wp : Option Addr) (wn wcp : Nat) (sk fr to q : Int) (L : List Ln) (T : List Tk) (M : List Ln) (W : World) (hw : Words W) (hP : PgM W lp ln lcp L tp tn tcp T wp wn wcp M) (hok : Pgok ⟨k, od, po, L, T, M, sk, fr, to, q⟩) (h1 : ln ≤ 400 ∧ tn ≤ 400 ∧ wn ≤ 400) (hg : goodP 4 4 ⟨k, od, po, L, T, M, sk, fr, to, q⟩ = true) :
    Calls Tryz.prog 55 #[.agg #[.int .u8 k, .int .u32 od, .int .u8 po, .slice lp ln lcp, .slice tp tn tcp, .slice wp wn wcp, .int .u8 sk, .int .u8 fr, .int .u8 to, .int .i64 q]] W (GivesY W ⟨k, od, po, L, T, M, sk, fr, to, q⟩) := by
  obtain ⟨hs1, hs2, hs3⟩ := good_small hg
  dsimp only at hs1 hs2 hs3
  rw [hP.l.len] at hs1
  rw [hP.t.len] at hs2
  rw [hP.o.len] at hs3
  obtain ⟨nk, ek⟩ : ∃ nk : Nat, k = (nk : Int) := ⟨k.toNat, by have := hok.kind; dsimp only at this; omega⟩
  have bk : nk < 256 ^ 1 := by have := hok.kind; dsimp only at this; omega
  have ck : IntKind.u64.wrap k = nk := by rw [ek]; exact u64_small _ (by omega)
  obtain ⟨nod, eod⟩ : ∃ nod : Nat, od = (nod : Int) := ⟨od.toNat, by have := hok.order; dsimp only at this; omega⟩
  have bod : nod < 256 ^ 4 := by have := hok.order; dsimp only at this; omega
  have cod : IntKind.u64.wrap od = nod := by rw [eod]; exact u64_small _ (by omega)
  obtain ⟨npo, epo⟩ : ∃ npo : Nat, po = (npo : Int) := ⟨po.toNat, by have := hok.policy; dsimp only at this; omega⟩
  have bpo : npo < 256 ^ 1 := by have := hok.policy; dsimp only at this; omega
  have cpo : IntKind.u64.wrap po = npo := by rw [epo]; exact u64_small _ (by omega)
  obtain ⟨nsk, esk⟩ : ∃ nsk : Nat, sk = (nsk : Int) := ⟨sk.toNat, by have := hok.sku; dsimp only at this; omega⟩
  have bsk : nsk < 256 ^ 1 := by have := hok.sku; dsimp only at this; omega
  have csk : IntKind.u64.wrap sk = nsk := by rw [esk]; exact u64_small _ (by omega)
  obtain ⟨nfr, efr⟩ : ∃ nfr : Nat, fr = (nfr : Int) := ⟨fr.toNat, by have := hok.frm; dsimp only at this; omega⟩
  have bfr : nfr < 256 ^ 1 := by have := hok.frm; dsimp only at this; omega
  have cfr : IntKind.u64.wrap fr = nfr := by rw [efr]; exact u64_small _ (by omega)
  obtain ⟨nto, eto⟩ : ∃ nto : Nat, to = (nto : Int) := ⟨to.toNat, by have := hok.to; dsimp only at this; omega⟩
  have bto : nto < 256 ^ 1 := by have := hok.to; dsimp only at this; omega
  have cto : IntKind.u64.wrap to = nto := by rw [eto]; exact u64_small _ (by omega)
  have hq : In64 q := hok.qty
  have HQ := Lib.hid hq
  have HBY : Hid (bytesP ⟨k, od, po, L, T, M, sk, fr, to, q⟩ = le nk 1 ++ le nod 4 ++ le npo 1 ++ (le ln 1 ++ L.flatMap lnB) ++ (le tn 1 ++ T.flatMap tkBy) ++ (le wn 1 ++ M.flatMap lnB) ++ le nsk 1 ++ le nfr 1 ++ le nto 1 ++ le (u64 q) 8) := Lib.hid (by
    unfold bytesP lnsB tksB
    dsimp only
    rw [hP.l.len, hP.t.len, hP.o.len, ek, eod, epo, esk, efr, eto]
    rfl)
  have HBN : Hid ((bytesP ⟨k, od, po, L, T, M, sk, fr, to, q⟩).length ≤ 400) := Lib.hid (by
    unfold bytesP
    simp only [List.length_append, lnsB_len, tksB_len, le_len]
    rw [hP.l.len, hP.t.len, hP.o.len]
    omega)
  have HLL : Hid ((L.flatMap lnB).length = 9 * ln) := Lib.hid (by rw [lnf_len, hP.l.len])
  have HTT : Hid ((T.flatMap tkBy).length = 14 * tn) := Lib.hid (by rw [tkf_len, hP.t.len])
  have HMM : Hid ((M.flatMap lnB).length = 9 * wn) := Lib.hid (by rw [lnf_len, hP.o.len])
  obtain ⟨W1, hW1, hbx, hb1⟩ : ∃ W1, W.alloc (.cells #[.int .u8 k, .int .u32 od, .int .u8 po, .slice lp ln lcp, .slice tp tn tcp, .slice wp wn wcp, .int .u8 sk, .int .u8 fr, .int .u8 to, .int .i64 q] 28) = W1 ∧ W1.heap[W.heap.size]? = some (.cells #[.int .u8 k, .int .u32 od, .int .u8 po, .slice lp ln lcp, .slice tp tn tcp, .slice wp wn wcp, .int .u8 sk, .int .u8 fr, .int .u8 to, .int .i64 q] 28 (0, 0)) ∧ Below W.heap.size W W1 := ⟨_, rfl, alloc_block W _, (Below.refl _ _).alloc (Nat.le_refl _) _⟩
  have hgd := good_p 4 4 k od po lp ln lcp tp tn tcp wp wn wcp sk fr to q L T M W1 (hw.later hb1) (hP.later hb1) hok h1
  rw [hg] at hgd
  have HG := Lib.hid hg
  have HW1 := Lib.hid hW1
  have HB1 := Lib.hid hb1
  have HX1 := Lib.hid hbx
  have HP1 := Lib.hid (hP.later hb1)
  have HOK := Lib.hid hok
  obtain ⟨a0, a1, a2, a3, a4, a5, a6, a7, a8, a9⟩ := prog_cells k od po lp ln lcp tp tn tcp wp wn wcp sk fr to q hbx
  clear hW1 hb1 hbx hP hok hg hw h1 ek eod epo esk efr eto hq
  go_enter Tryz.func55, Tryz.ntmps55
  go_wp2_with fail
  rw [HW1.out]
  refine hgd.mono ?_
  rintro e W2 ⟨rfl, h2⟩
  have HB2 := Lib.hid h2
  clear hgd h2 a0 a1 a2 a3 a4 a5 a6 a7 a8 a9
  go_wp2_with fail
  refine (new_any 512 W2).mono ?_
  rintro e W3 ⟨rfl, rfl⟩
  -- the writer, and its box
  obtain ⟨B, hB⟩ : ∃ B, W2.heap.size = B := ⟨_, rfl⟩
  obtain ⟨W4, hW4, hs4, hbw, hb4⟩ : ∃ W4, (W2.alloc (.cells #[.int .i64 0, .int .i64 512, .slice none 0 0] 114)).alloc (wbox B) = W4 ∧ W4.heap.size = B + 2 ∧ W4.heap[B + 1]? = some (.cells #[.pointer (some ⟨B, 0, none⟩)] 119 (0, 0)) ∧ Below W2.heap.size W2 W4 := ⟨_, rfl, by simp [hB], by have := alloc_block (W2.alloc (.cells #[.int .i64 0, .int .i64 512, .slice none 0 0] 114)) (wbox B); rwa [World.size_alloc, hB] at this, ((Below.refl _ _).alloc (Nat.le_refl _) _).alloc (by simp) _⟩
  have hwr4 : Wr W4 B (.slice none 0 0) 512 (0, []) := by
    have h0 := new_wr W2 512
    rw [hB] at h0
    rw [← hW4]
    exact h0.chg (Chg.of_below (S := fun _ => False) ((Below.refl _ _).alloc (Nat.le_refl _) _)) (fun h => h) (fun _ _ h => h)
  have hWB : W.heap.size < B := by have := block_lt HX1.out; have := HB2.out.size; omega
  have hx4 := block_later HX1.out (HB2.out.trans (hb4.mono HB2.out.size))
  have HC : Hid (∀ w', Chg (fun k => k = B ∨ (Value.slice none 0 0).ownBlock = some k) W4 w' → (w'.heap[W.heap.size]? = some (.cells #[.int .u8 k, .int .u32 od, .int .u8 po, .slice lp ln lcp, .slice tp tn tcp, .slice wp wn wcp, .int .u8 sk, .int .u8 fr, .int .u8 to, .int .i64 q] 28 (0, 0)) ∧ w'.cell? ⟨B + 1, 0, none⟩ = some (.pointer (some ⟨B, 0, none⟩)))) := Lib.hid fun w' hc => ⟨(hc.block _ (block_lt hx4) (fun hk => by rcases hk with hk | hk; omega; cases hk)).trans hx4, block_cell ((hc.block _ (by omega) (fun hk => by rcases hk with hk | hk; omega; cases hk)).trans hbw) rfl⟩
  have HPM : Hid (∀ w', Chg (fun k => k = B ∨ (Value.slice none 0 0).ownBlock = some k) W4 w' → PgM w' lp ln lcp L tp tn tcp T wp wn wcp M) := Lib.hid fun w' hc => HP1.out.later (HB2.out.trans ((Chg.below (W := W2) (B := W2.heap.size) hb4 (by omega) hc (fun k hk => by rcases hk with hk | hk; omega; cases hk)).mono HB2.out.size))
  have HBE : Hid (∀ w', Chg (fun k => k = B ∨ (Value.slice none 0 0).ownBlock = some k) W4 w' → Below W.heap.size W w') := Lib.hid fun w' hc => HB1.out.trans ((HB2.out.trans ((Chg.below (W := W2) (B := W2.heap.size) hb4 (by omega) hc (fun k hk => by rcases hk with hk | hk; omega; cases hk)).mono HB2.out.size)).mono HB1.out.size)
  have HW4 := Lib.hid hW4
  have H0 := Lib.hid (Wrote.same hwr4)
  have HBB := Lib.hid hB
  clear hW4 hs4 hbw hb4 hwr4 hWB hx4
  rw [hB]
  clear hB
  go_upto_region 4 with (fail)
  rw [HW4.out]
  rw [HBB.out]
  obtain ⟨hpx, x0⟩ := HC.out _ H0.out.chg
  obtain ⟨a0, a1, a2, a3, a4, a5, a6, a7, a8, a9⟩ := prog_cells k od po lp ln lcp tp tn tcp wp wn wcp sk fr to q hpx
  clear hpx
  go_wp2_with fail
  obtain ⟨v0, h0, o0⟩ := H0.out.wr
  refine (num_w B v0 ([]) nk 1 W4 h0 (by omega) (by omega) bk (by first | omega | (simp only [List.length_append, List.length_nil, le_len, HLL.out, HTT.out, HMM.out]; omega))).mono ?_
  rintro e wk0 ⟨rfl, hw⟩
  have H1 := Lib.hid (H0.out.next o0 hw)
  clear hw h0 o0 x0 a0 a1 a2 a3 a4 a5 a6 a7 a8 a9
  obtain ⟨hpx, x0⟩ := HC.out _ H1.out.chg
  obtain ⟨a0, a1, a2, a3, a4, a5, a6, a7, a8, a9⟩ := prog_cells k od po lp ln lcp tp tn tcp wp wn wcp sk fr to q hpx
  clear hpx
  go_wp2_with fail
  obtain ⟨v1, h1, o1⟩ := H1.out.wr
  refine (num_w B v1 ([] ++ le nk 1) nod 4 wk0 h1 (by omega) (by omega) bod (by first | omega | (simp only [List.length_append, List.length_nil, le_len, HLL.out, HTT.out, HMM.out]; omega))).mono ?_
  rintro e wk1 ⟨rfl, hw⟩
  have H2 := Lib.hid (H1.out.next o1 hw)
  clear hw h1 o1 x0 a0 a1 a2 a3 a4 a5 a6 a7 a8 a9
  obtain ⟨hpx, x0⟩ := HC.out _ H2.out.chg
  obtain ⟨a0, a1, a2, a3, a4, a5, a6, a7, a8, a9⟩ := prog_cells k od po lp ln lcp tp tn tcp wp wn wcp sk fr to q hpx
  clear hpx
  go_wp2_with fail
  obtain ⟨v2, h2, o2⟩ := H2.out.wr
  refine (num_w B v2 ([] ++ le nk 1 ++ le nod 4) npo 1 wk1 h2 (by omega) (by omega) bpo (by first | omega | (simp only [List.length_append, List.length_nil, le_len, HLL.out, HTT.out, HMM.out]; omega))).mono ?_
  rintro e wk2 ⟨rfl, hw⟩
  have H3 := Lib.hid (H2.out.next o2 hw)
  clear hw h2 o2 x0 a0 a1 a2 a3 a4 a5 a6 a7 a8 a9
  obtain ⟨hpx, x0⟩ := HC.out _ H3.out.chg
  obtain ⟨a0, a1, a2, a3, a4, a5, a6, a7, a8, a9⟩ := prog_cells k od po lp ln lcp tp tn tcp wp wn wcp sk fr to q hpx
  clear hpx
  go_wp2_with fail
  obtain ⟨v3, h3, o3⟩ := H3.out.wr
  refine (wlist_ln B v3 ([] ++ le nk 1 ++ le nod 4 ++ le npo 1) lp ln lcp L wk2 h3 (fun w' hc => (HPM.out w' (H3.out.chg.trans hc fun k hk hb => by
    rcases hb with hb | hb
    · exact .inl hb
    · rcases o3 k hb with hb | hb
      · exact .inr hb
      · omega)).l) HOK.out.lines (by omega) (by first | omega | (simp only [List.length_append, List.length_nil, le_len, HLL.out, HTT.out, HMM.out]; omega))).mono ?_
  rintro e wk3 ⟨rfl, hw⟩
  have H4 := Lib.hid (H3.out.next o3 hw)
  clear hw h3 o3 x0 a0 a1 a2 a3 a4 a5 a6 a7 a8 a9
  obtain ⟨hpx, x0⟩ := HC.out _ H4.out.chg
  obtain ⟨a0, a1, a2, a3, a4, a5, a6, a7, a8, a9⟩ := prog_cells k od po lp ln lcp tp tn tcp wp wn wcp sk fr to q hpx
  clear hpx
  go_wp2_with fail
  obtain ⟨v4, h4, o4⟩ := H4.out.wr
  refine (wlist_tk B v4 ([] ++ le nk 1 ++ le nod 4 ++ le npo 1 ++ le ln 1 ++ L.flatMap lnB) tp tn tcp T wk3 h4 (fun w' hc => (HPM.out w' (H4.out.chg.trans hc fun k hk hb => by
    rcases hb with hb | hb
    · exact .inl hb
    · rcases o4 k hb with hb | hb
      · exact .inr hb
      · omega)).t) HOK.out.takes (by omega) (by first | omega | (simp only [List.length_append, List.length_nil, le_len, HLL.out, HTT.out, HMM.out]; omega))).mono ?_
  rintro e wk4 ⟨rfl, hw⟩
  have H5 := Lib.hid (H4.out.next o4 hw)
  clear hw h4 o4 x0 a0 a1 a2 a3 a4 a5 a6 a7 a8 a9
  obtain ⟨hpx, x0⟩ := HC.out _ H5.out.chg
  obtain ⟨a0, a1, a2, a3, a4, a5, a6, a7, a8, a9⟩ := prog_cells k od po lp ln lcp tp tn tcp wp wn wcp sk fr to q hpx
  clear hpx
  go_wp2_with fail
  obtain ⟨v5, h5, o5⟩ := H5.out.wr
  refine (wlist_ln B v5 ([] ++ le nk 1 ++ le nod 4 ++ le npo 1 ++ le ln 1 ++ L.flatMap lnB ++ le tn 1 ++ T.flatMap tkBy) wp wn wcp M wk4 h5 (fun w' hc => (HPM.out w' (H5.out.chg.trans hc fun k hk hb => by
    rcases hb with hb | hb
    · exact .inl hb
    · rcases o5 k hb with hb | hb
      · exact .inr hb
      · omega)).o) HOK.out.owes (by omega) (by first | omega | (simp only [List.length_append, List.length_nil, le_len, HLL.out, HTT.out, HMM.out]; omega))).mono ?_
  rintro e wk5 ⟨rfl, hw⟩
  have H6 := Lib.hid (H5.out.next o5 hw)
  clear hw h5 o5 x0 a0 a1 a2 a3 a4 a5 a6 a7 a8 a9
  obtain ⟨hpx, x0⟩ := HC.out _ H6.out.chg
  obtain ⟨a0, a1, a2, a3, a4, a5, a6, a7, a8, a9⟩ := prog_cells k od po lp ln lcp tp tn tcp wp wn wcp sk fr to q hpx
  clear hpx
  go_wp2_with fail
  obtain ⟨v6, h6, o6⟩ := H6.out.wr
  refine (num_w B v6 ([] ++ le nk 1 ++ le nod 4 ++ le npo 1 ++ le ln 1 ++ L.flatMap lnB ++ le tn 1 ++ T.flatMap tkBy ++ le wn 1 ++ M.flatMap lnB) nsk 1 wk5 h6 (by omega) (by omega) bsk (by first | omega | (simp only [List.length_append, List.length_nil, le_len, HLL.out, HTT.out, HMM.out]; omega))).mono ?_
  rintro e wk6 ⟨rfl, hw⟩
  have H7 := Lib.hid (H6.out.next o6 hw)
  clear hw h6 o6 x0 a0 a1 a2 a3 a4 a5 a6 a7 a8 a9
  obtain ⟨hpx, x0⟩ := HC.out _ H7.out.chg
  obtain ⟨a0, a1, a2, a3, a4, a5, a6, a7, a8, a9⟩ := prog_cells k od po lp ln lcp tp tn tcp wp wn wcp sk fr to q hpx
  clear hpx
  go_wp2_with fail
  obtain ⟨v7, h7, o7⟩ := H7.out.wr
  refine (num_w B v7 ([] ++ le nk 1 ++ le nod 4 ++ le npo 1 ++ le ln 1 ++ L.flatMap lnB ++ le tn 1 ++ T.flatMap tkBy ++ le wn 1 ++ M.flatMap lnB ++ le nsk 1) nfr 1 wk6 h7 (by omega) (by omega) bfr (by first | omega | (simp only [List.length_append, List.length_nil, le_len, HLL.out, HTT.out, HMM.out]; omega))).mono ?_
  rintro e wk7 ⟨rfl, hw⟩
  have H8 := Lib.hid (H7.out.next o7 hw)
  clear hw h7 o7 x0 a0 a1 a2 a3 a4 a5 a6 a7 a8 a9
  obtain ⟨hpx, x0⟩ := HC.out _ H8.out.chg
  obtain ⟨a0, a1, a2, a3, a4, a5, a6, a7, a8, a9⟩ := prog_cells k od po lp ln lcp tp tn tcp wp wn wcp sk fr to q hpx
  clear hpx
  go_wp2_with fail
  obtain ⟨v8, h8, o8⟩ := H8.out.wr
  refine (num_w B v8 ([] ++ le nk 1 ++ le nod 4 ++ le npo 1 ++ le ln 1 ++ L.flatMap lnB ++ le tn 1 ++ T.flatMap tkBy ++ le wn 1 ++ M.flatMap lnB ++ le nsk 1 ++ le nfr 1) nto 1 wk7 h8 (by omega) (by omega) bto (by first | omega | (simp only [List.length_append, List.length_nil, le_len, HLL.out, HTT.out, HMM.out]; omega))).mono ?_
  rintro e wk8 ⟨rfl, hw⟩
  have H9 := Lib.hid (H8.out.next o8 hw)
  clear hw h8 o8 x0 a0 a1 a2 a3 a4 a5 a6 a7 a8 a9
  obtain ⟨hpx, x0⟩ := HC.out _ H9.out.chg
  obtain ⟨a0, a1, a2, a3, a4, a5, a6, a7, a8, a9⟩ := prog_cells k od po lp ln lcp tp tn tcp wp wn wcp sk fr to q hpx
  clear hpx
  go_wp2_with fail
  obtain ⟨v9, h9, o9⟩ := H9.out.wr
  refine (int_w B v9 ([] ++ le nk 1 ++ le nod 4 ++ le npo 1 ++ le ln 1 ++ L.flatMap lnB ++ le tn 1 ++ T.flatMap tkBy ++ le wn 1 ++ M.flatMap lnB ++ le nsk 1 ++ le nfr 1 ++ le nto 1) q wk8 h9 HQ.out (by first | omega | (simp only [List.length_append, List.length_nil, le_len, HLL.out, HTT.out, HMM.out]; omega))).mono ?_
  rintro e wk9 ⟨rfl, hw⟩
  have H10 := Lib.hid (H9.out.next o9 hw)
  clear hw h9 o9 x0 a0 a1 a2 a3 a4 a5 a6 a7 a8 a9
  obtain ⟨hpx, x0⟩ := HC.out _ H10.out.chg
  obtain ⟨a0, a1, a2, a3, a4, a5, a6, a7, a8, a9⟩ := prog_cells k od po lp ln lcp tp tn tcp wp wn wcp sk fr to q hpx
  clear hpx
  go_wp2_with fail
  obtain ⟨v10, h10, o10⟩ := H10.out.wr
  have hby : ([] ++ le nk 1 ++ le nod 4 ++ le npo 1 ++ le ln 1 ++ L.flatMap lnB ++ le tn 1 ++ T.flatMap tkBy ++ le wn 1 ++ M.flatMap lnB ++ le nsk 1 ++ le nfr 1 ++ le nto 1 ++ le (u64 q) 8 : List Nat) = bytesP ⟨k, od, po, L, T, M, sk, fr, to, q⟩ := by
    rw [HBY.out]
    simp only [List.append_assoc, List.nil_append]
  rw [hby] at h10
  refine (done_any B v10 512 (0, bytesP ⟨k, od, po, L, T, M, sk, fr, to, q⟩) wk9 h10 (by have := HBN.out; dsimp only; omega)).mono ?_
  rintro e w11 ⟨hb11, hd⟩
  rw [if_pos rfl] at hd
  obtain ⟨vv, rfl, hrow, hown⟩ := hd
  obtain ⟨pp, cc, hv, hcm, hsl, hbk⟩ := hrow.sl
  subst hv
  have hbe := HBE.out _ H10.out.chg
  have HF : Hid (GivesY W ⟨k, od, po, L, T, M, sk, fr, to, q⟩ (.returned (.tuple #[.slice pp (bytesP ⟨k, od, po, L, T, M, sk, fr, to, q⟩).length cc, .int .i64 0])) w11) := Lib.hid ⟨hbe.trans (hb11.mono hbe.size), by
    rw [if_pos HG.out]
    exact ⟨pp, cc, rfl, hsl, hcm, fun a ha => Nat.le_trans hbe.size (hown _ (hbk a ha))⟩⟩
  clear hb11 hrow hown hcm hsl hbk h10 o10 x0 a0 a1 a2 a3 a4 a5 a6 a7 a8 a9 hby hbe
  generalize bytesP ⟨k, od, po, L, T, M, sk, fr, to, q⟩ = bb at *
  go_wp2_with fail
  go_ret2
  exact HF.out
theorem encode_p (k od po : Int) (lp : Option Addr) (ln lcp : Nat) (tp : Option Addr) (tn tcp : Nat) (wp : Option Addr) (wn wcp : Nat) (sk fr to q : Int) (L : List Ln) (T : List Tk) (M : List Ln) (W : World) (hw : Words W) (hP : PgM W lp ln lcp L tp tn tcp T wp wn wcp M) (hok : Pgok ⟨k, od, po, L, T, M, sk, fr, to, q⟩) (h1 : ln ≤ 400 ∧ tn ≤ 400 ∧ wn ≤ 400) :
    Calls Tryz.prog 55 #[.agg #[.int .u8 k, .int .u32 od, .int .u8 po, .slice lp ln lcp, .slice tp tn tcp, .slice wp wn wcp, .int .u8 sk, .int .u8 fr, .int .u8 to, .int .i64 q]] W (GivesY W ⟨k, od, po, L, T, M, sk, fr, to, q⟩) := by
  cases hg : goodP 4 4 ⟨k, od, po, L, T, M, sk, fr, to, q⟩ with
  | false => exact encode_no k od po lp ln lcp tp tn tcp wp wn wcp sk fr to q L T M W hw hP hok h1 hg
  | true => exact encode_yes k od po lp ln lcp tp tn tcp wp wn wcp sk fr to q L T M W hw hP hok h1 hg
end Go.Proofs.YtdcanppiiikjgaaGreatDoor
namespace Go.Proofs.YtdcanppiiikjgaaGreatDoor
open Go.RowKit Go.ChangeShapes Go.WideShapes
set_option linter.unusedVariables false
set_option linter.unusedSimpArgs false
set_option maxRecDepth 10000

theorem take_lit (w : World) (x : Tk) : TKL (w.alloc (.cells #[.int .u32 x.1, .int .u8 x.2.1, .int .u8 x.2.2.1, .int .i64 x.2.2.2] 87)) (some ⟨w.heap.size, 0, none⟩) 1 1 [x] := by
  have hr := alloc_block w (.cells #[.int .u32 x.1, .int .u8 x.2.1, .int .u8 x.2.2.1, .int .i64 x.2.2.2] 87)
  refine ⟨rfl, Nat.le_refl _, by unfold maxLen; omega, (fun h => by cases h), fun _ => ⟨_, 0, rfl, block_lt hr, fun j hj i v hv => ?_⟩⟩
  refine block_cell hr ?_
  have hi : i < 4 := (List.getElem?_eq_some_iff.1 hv).1
  obtain rfl : j = 0 := by omega
  rcases (by omega : i = 0 ∨ i = 1 ∨ i = 2 ∨ i = 3) with rfl | rfl | rfl | rfl <;> exact hv
/-- The example, as plain data. -/
def exP : Pg := ⟨1, 7, 0, [(0, 5)], [(7, 0, 1, 3)], [(0, 2)], 0, 0, 0, 0⟩
theorem ex_good : goodP 4 4 exP = true := by decide +kernel
theorem ex_steps : stepsP exP = [(1, 1, [(0, 3)]), (7, 0, [(0, 2)])] := by decide +kernel
theorem ex_bytes : (bytesP exP).length = 52 := by decide +kernel
theorem ex_ok : Pgok exP := ⟨by decide, by decide, by decide, fun x hx => by obtain rfl := List.mem_singleton.1 hx; exact ⟨⟨by decide, by decide⟩, by decide, by decide⟩, fun x hx => by obtain rfl := List.mem_singleton.1 hx; exact ⟨⟨by decide, by decide⟩, ⟨by decide, by decide⟩, ⟨by decide, by decide⟩, by decide, by decide⟩, fun x hx => by obtain rfl := List.mem_singleton.1 hx; exact ⟨⟨by decide, by decide⟩, by decide, by decide⟩, by decide, by decide, by decide, ⟨by decide, by decide⟩⟩
theorem wpList_store_pgx {ops : Array Oper} {rest : List Oper} {a : Act} {w : World} {Q : Exit → Act → World → Prop} {dst : Option Tmp} {x y : Operand} {ty : TypeId} {pos : String} {after : Array Edge} {B : Nat} {l1 l2 l3 : Addr} (hB : w.heap[B]? = some (.cells #[.int .u8 0, .int .u32 0, .int .u8 0, .slice none 0 0, .slice none 0 0, .slice none 0 0, .int .u8 0, .int .u8 0, .int .u8 0, .int .i64 0] 28 (0, 0)))
    (hx : a.eval x = .pointer (some ⟨B, 0, none⟩)) (hy : a.eval y = .agg #[.int .u8 1, .int .u32 7, .int .u8 0, .slice (some l1) 1 1, .slice (some l2) 1 1, .slice (some l3) 1 1, .int .u8 0, .int .u8 0, .int .u8 0, .int .i64 0])
    (h : wpList Tryz.prog ops Q rest (a.put dst undef) (w.setRow B #[.int .u8 1, .int .u32 7, .int .u8 0, .slice (some l1) 1 1, .slice (some l2) 1 1, .slice (some l3) 1 1, .int .u8 0, .int .u8 0, .int .u8 0, .int .i64 0])) : wpList Tryz.prog ops Q (Oper.mk dst (.store 28 x y) ty pos after none :: rest) a w :=
  wpList_store_row rfl 28 x y rfl B #[.int .u8 1, .int .u32 7, .int .u8 0, .slice (some l1) 1 1, .slice (some l2) 1 1, .slice (some l3) 1 1, .int .u8 0, .int .u8 0, .int .u8 0, .int .i64 0] hx hy 28 #[.int .u8 0, .int .u32 0, .int .u8 0, .slice none 0 0, .slice none 0 0, .slice none 0 0, .int .u8 0, .int .u8 0, .int .u8 0, .int .i64 0] hB (by kernel_rfl) rfl (by simp [Value.oneCell']) h
def GivesX (W : World) (e : Ending) (w' : World) : Prop := ∃ l1 l2 l3, e = .returned (.agg #[.int .u8 1, .int .u32 7, .int .u8 0, .slice (some l1) 1 1, .slice (some l2) 1 1, .slice (some l3) 1 1, .int .u8 0, .int .u8 0, .int .u8 0, .int .i64 0]) ∧ PgM w' (some l1) 1 1 [(0, 5)] (some l2) 1 1 [(7, 0, 1, 3)] (some l3) 1 1 [(0, 2)] ∧ Below W.heap.size W w'
theorem isfew_p (k od po : Int) (lp : Option Addr) (ln lcp : Nat) (tp : Option Addr) (tn tcp : Nat) (wp : Option Addr) (wn wcp : Nat) (sk fr to q : Int) (W : World) : Calls Tryz.prog 42 #[.agg #[.int .u8 k, .int .u32 od, .int .u8 po, .slice lp ln lcp, .slice tp tn tcp, .slice wp wn wcp, .int .u8 sk, .int .u8 fr, .int .u8 to, .int .i64 q]] W fun e w' => e = .returned (.bool (decide (ln ≤ 20 ∧ tn ≤ 30 ∧ wn ≤ 20))) ∧ Below W.heap.size W w' := by
  have HB : Hid (Below W.heap.size W (W.alloc (.cells #[.int .u8 k, .int .u32 od, .int .u8 po, .slice lp ln lcp, .slice tp tn tcp, .slice wp wn wcp, .int .u8 sk, .int .u8 fr, .int .u8 to, .int .i64 q] 28))) := Lib.hid ((Below.refl _ _).alloc (Nat.le_refl _) _)
  obtain ⟨r, hr⟩ : ∃ r, decide (ln ≤ 20 ∧ tn ≤ 30 ∧ wn ≤ 20) = r := ⟨_, rfl⟩
  have HR := Lib.hid hr
  rw [hr]
  clear hr
  by_cases h1 : ln ≤ 20
  case neg =>
    have d1 : decide ((ln : Int) ≤ 20) = false := decide_eq_false (by omega)
    obtain rfl : r = false := by rw [← HR.out]; exact decide_eq_false (by omega)
    go_enter Tryz.func42, Tryz.ntmps42
    go_wp2_with fail
    go_ret
    exact ⟨rfl, HB.out⟩
  have d1 : decide ((ln : Int) ≤ 20) = true := decide_eq_true (by omega)
  by_cases h2 : tn ≤ 30
  case neg =>
    have d2 : decide ((tn : Int) ≤ 30) = false := decide_eq_false (by omega)
    obtain rfl : r = false := by rw [← HR.out]; exact decide_eq_false (by omega)
    go_enter Tryz.func42, Tryz.ntmps42
    go_wp2_with fail
    go_ret
    exact ⟨rfl, HB.out⟩
  have d2 : decide ((tn : Int) ≤ 30) = true := decide_eq_true (by omega)
  by_cases h3 : wn ≤ 20
  case neg =>
    have d3 : decide ((wn : Int) ≤ 20) = false := decide_eq_false (by omega)
    obtain rfl : r = false := by rw [← HR.out]; exact decide_eq_false (by omega)
    go_enter Tryz.func42, Tryz.ntmps42
    go_wp2_with fail
    go_ret
    exact ⟨rfl, HB.out⟩
  have d3 : decide ((wn : Int) ≤ 20) = true := decide_eq_true (by omega)
  obtain rfl : r = true := by rw [← HR.out]; exact decide_eq_true (by omega)
  go_enter Tryz.func42, Tryz.ntmps42
  go_wp2_with fail
  go_ret
  exact ⟨rfl, HB.out⟩
/-- Few things: 1, else 0. -/
def fewI (ln tn wn : Nat) : Int := if ln ≤ 20 ∧ tn ≤ 30 ∧ wn ≤ 20 then 1 else 0
theorem few_p (k od po : Int) (lp : Option Addr) (ln lcp : Nat) (tp : Option Addr) (tn tcp : Nat) (wp : Option Addr) (wn wcp : Nat) (sk fr to q : Int) (W : World) : Calls Tryz.prog 20 #[.agg #[.int .u8 k, .int .u32 od, .int .u8 po, .slice lp ln lcp, .slice tp tn tcp, .slice wp wn wcp, .int .u8 sk, .int .u8 fr, .int .u8 to, .int .i64 q]] W fun e w' => e = .returned (.int .i64 (fewI ln tn wn)) ∧ Below W.heap.size W w' := by
  obtain ⟨W1, hW1, hb1⟩ : ∃ W1, W.alloc (.cells #[.int .u8 k, .int .u32 od, .int .u8 po, .slice lp ln lcp, .slice tp tn tcp, .slice wp wn wcp, .int .u8 sk, .int .u8 fr, .int .u8 to, .int .i64 q] 28) = W1 ∧ Below W.heap.size W W1 := ⟨_, rfl, (Below.refl _ _).alloc (Nat.le_refl _) _⟩
  have HI := Lib.hid (isfew_p k od po lp ln lcp tp tn tcp wp wn wcp sk fr to q W1)
  have HB1 := Lib.hid hb1
  have HW1 := Lib.hid hW1
  clear hW1 hb1
  by_cases h : ln ≤ 20 ∧ tn ≤ 30 ∧ wn ≤ 20
  · have hi := HI.out
    rw [decide_eq_true h] at hi
    have HF : Hid (fewI ln tn wn = 1) := Lib.hid (if_pos h)
    clear h
    go_enter Tryz.func20, Tryz.ntmps20
    go_wp2_with fail
    rw [HW1.out]
    refine hi.mono ?_
    rintro e w2 ⟨rfl, h2⟩
    have HB2 := Lib.hid (HB1.out.trans (h2.mono HB1.out.size))
    clear hi h2
    go_wp2_with fail
    go_ret
    exact ⟨by rw [HF.out]; rfl, HB2.out⟩
  · have hi := HI.out
    rw [decide_eq_false h] at hi
    have HF : Hid (fewI ln tn wn = 0) := Lib.hid (if_neg h)
    clear h
    go_enter Tryz.func20, Tryz.ntmps20
    go_wp2_with fail
    rw [HW1.out]
    refine hi.mono ?_
    rintro e w2 ⟨rfl, h2⟩
    have HB2 := Lib.hid (HB1.out.trans (h2.mono HB1.out.size))
    clear hi h2
    go_wp2_with fail
    go_ret
    exact ⟨by rw [HF.out]; rfl, HB2.out⟩
end Go.Proofs.YtdcanppiiikjgaaGreatDoor
