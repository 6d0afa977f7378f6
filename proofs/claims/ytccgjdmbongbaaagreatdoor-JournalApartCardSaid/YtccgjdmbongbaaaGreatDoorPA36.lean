import Derived.Test.YtccgjdmbongbaaaGreatDoorPA28
import Derived.Test.YtccgjdmbongbaaaGreatDoorPA35
namespace Go.Proofs.YtccgjdmbongbaaaGreatDoor
open Go.RowKit Go.ChangeShapes Go.WideShapes
set_option linter.unusedVariables false
set_option linter.unusedSimpArgs false
set_option maxRecDepth 10000
theorem good_small {s w : Int} {P : Pg} (h : goodP s w P = true) : P.lines.length ≤ 3 ∧ P.takes.length ≤ 12 ∧ P.owes.length ≤ 3 := by
 unfold goodP at h
 simp only [Bool.and_eq_true, decide_eq_true_eq] at h
 obtain ⟨⟨_, ha⟩, hq⟩ := h
 have hl : ∀ {s : Int} {L : List Ln}, linesB s L = true → L.length ≤ 3 := fun h => (lines_parts h).1
 have ht : ∀ {s w o : Int} {T : List Tk}, takesB s w o T = true → T.length ≤ 12 := fun h => ((takes_iff _ _ _ _).1 h).1
 unfold askP at ha
 unfold qofP at hq
 split at ha
 · rename_i h1
   simp only [Bool.and_eq_true] at ha
   exact ⟨hl ha.1.1.1.1.2, ht ha.1.1.1.2, hl ha.1.1.2⟩
 · rename_i n1
   rw [if_neg n1] at hq
   split at ha
   · rename_i h2
     rw [if_pos h2] at hq
     simp only [Bool.and_eq_true] at ha
     have := congrArg (fun P => P.lines.length) hq
     simp only [List.length_nil] at this
     exact ⟨by omega, ht ha.1.1.2, hl ha.1.2⟩
   · rename_i n2
     rw [if_neg n2] at hq
     split at ha
     · rename_i h3
       rw [if_pos h3] at hq
       simp only [Bool.and_eq_true] at ha
       have h1 := congrArg (fun P => P.lines.length) hq
       have h2 := congrArg (fun P => P.owes.length) hq
       simp only [List.length_nil] at h1 h2
       exact ⟨by omega, ht ha.1.2, by omega⟩
     · rename_i n3
       rw [if_neg n3] at hq
       split at ha
       · rename_i h5
         rw [if_pos h5] at hq
         simp only [Bool.and_eq_true] at ha
         have h1 := congrArg (fun P => P.lines.length) hq
         have h2 := congrArg (fun P => P.owes.length) hq
         simp only [List.length_nil] at h1 h2
         have h3 := ha.2
         refine ⟨by omega, ?_, by omega⟩
         by_cases hT : P.takes.length ≤ 12
         · exact hT
         · rw [fills_long hT] at h3
           cases h3
       · rename_i n5
         rw [if_neg n5] at hq
         have h1 := congrArg (fun P => P.lines.length) hq
         have h2 := congrArg (fun P => P.owes.length) hq
         have h3 := congrArg (fun P => P.takes.length) hq
         simp only [List.length_nil] at h1 h2 h3
         omega
def GivesY (W : World) (P : Pg) (e : Ending) (w' : World) : Prop := Below W.heap.size W w' ∧ if goodP 4 4 P = true then ∃ p c, e = .returned (.tuple #[.slice p (bytesP P).length c, .int .i64 0]) ∧ Sl w' p (bytesP P).length c (bytesP P) ∧ c ≤ maxLen ∧ ∀ a, p = some a → W.heap.size ≤ a.block else e = .returned (.tuple #[.slice none 0 0, .int .i64 1])
set_option maxHeartbeats 8000000 in
theorem encode_no (k od po : Int) (lp : Option Addr) (ln lcp : Nat) (tp : Option Addr) (tn tcp : Nat) (wp : Option Addr) (wn wcp : Nat) (sk fr to q : Int) (L : List Ln) (T : List Tk) (M : List Ln) (W : World) (hw : Words W) (hP : PgM W lp ln lcp L tp tn tcp T wp wn wcp M) (hok : Pgok ⟨k, od, po, L, T, M, sk, fr, to, q⟩) (h1 : ln ≤ 400 ∧ tn ≤ 400 ∧ wn ≤ 400) (hg : goodP 4 4 ⟨k, od, po, L, T, M, sk, fr, to, q⟩ = false) :
 Calls Tryz.prog 115 #[.agg #[.int .u8 k, .int .u32 od, .int .u8 po, .slice lp ln lcp, .slice tp tn tcp, .slice wp wn wcp, .int .u8 sk, .int .u8 fr, .int .u8 to, .int .i64 q]] W (GivesY W ⟨k, od, po, L, T, M, sk, fr, to, q⟩) := by
 obtain ⟨W1, hW1, hbx, hb1⟩ : ∃ W1, W.alloc (.cells #[.int .u8 k, .int .u32 od, .int .u8 po, .slice lp ln lcp, .slice tp tn tcp, .slice wp wn wcp, .int .u8 sk, .int .u8 fr, .int .u8 to, .int .i64 q] 38) = W1 ∧ W1.heap[W.heap.size]? = some (.cells #[.int .u8 k, .int .u32 od, .int .u8 po, .slice lp ln lcp, .slice tp tn tcp, .slice wp wn wcp, .int .u8 sk, .int .u8 fr, .int .u8 to, .int .i64 q] 38 (0, 0)) ∧ Below W.heap.size W W1 := ⟨_, rfl, alloc_block W _, (Below.refl _ _).alloc (Nat.le_refl _) _⟩
 have hgd := good_p 4 4 k od po lp ln lcp tp tn tcp wp wn wcp sk fr to q L T M W1 (hw.later hb1) (hP.later hb1) hok h1
 rw [hg] at hgd
 have HG := Lib.hid hg
 have HW1 := Lib.hid hW1
 have HB1 := Lib.hid hb1
 obtain ⟨a0, a1, a2, a3, a4, a5, a6, a7, a8, a9⟩ := prog_cells k od po lp ln lcp tp tn tcp wp wn wcp sk fr to q hbx
 clear hW1 hb1 hbx hP hok hg hw h1
 go_enter Tryz.func115, Tryz.ntmps115
 go_wp2_with fail
 rw [HW1.out]
 refine hgd.mono ?_
 rintro e w2 ⟨rfl, h2⟩
 have HB2 := Lib.hid h2
 clear hgd h2 a0 a1 a2 a3 a4 a5 a6 a7 a8 a9
 go_wp2_with fail
 go_ret2
 refine ⟨HB1.out.trans (HB2.out.mono HB1.out.size), ?_⟩
 rw [HG.out, if_neg (by decide)]
 rfl
set_option maxHeartbeats 16000000 in
theorem encode_yes (k od po : Int) (lp : Option Addr) (ln lcp : Nat) (tp : Option Addr) (tn tcp : Nat) (wp : Option Addr) (wn wcp : Nat) (sk fr to q : Int) (L : List Ln) (T : List Tk) (M : List Ln) (W : World) (hw : Words W) (hP : PgM W lp ln lcp L tp tn tcp T wp wn wcp M) (hok : Pgok ⟨k, od, po, L, T, M, sk, fr, to, q⟩) (h1 : ln ≤ 400 ∧ tn ≤ 400 ∧ wn ≤ 400) (hg : goodP 4 4 ⟨k, od, po, L, T, M, sk, fr, to, q⟩ = true) :
 Calls Tryz.prog 115 #[.agg #[.int .u8 k, .int .u32 od, .int .u8 po, .slice lp ln lcp, .slice tp tn tcp, .slice wp wn wcp, .int .u8 sk, .int .u8 fr, .int .u8 to, .int .i64 q]] W (GivesY W ⟨k, od, po, L, T, M, sk, fr, to, q⟩) := by
 obtain ⟨hs1, hs2, hs3⟩ := good_small hg
 dsimp only at hs1 hs2 hs3
 rw [hP.l.len] at hs1
 rw [hP.t.len] at hs2
 rw [hP.o.len] at hs3
 obtain ⟨nk, ek⟩ : ∃ nk : Nat, k = (nk : Int) := ⟨k.toNat, by have := hok.kind; dsimp only at this; omega⟩
 have bk : nk < 256 ^ 1 := by have := hok.kind; dsimp only at this; omega
 have ck : IntKind.u64.wrap k = nk := by rw [ek]; exact u64_small _ (by omega)
 obtain ⟨nod, eod⟩ : ∃ nod : Nat, od = (nod : Int) := ⟨od.toNat, by have := hok.order; dsimp only at this; omega⟩
 have bod : nod < 256 ^ 4 := by have := hok.order; dsimp only at this; omega
 have cod : IntKind.u64.wrap od = nod := by rw [eod]; exact u64_small _ (by omega)
 obtain ⟨npo, epo⟩ : ∃ npo : Nat, po = (npo : Int) := ⟨po.toNat, by have := hok.policy; dsimp only at this; omega⟩
 have bpo : npo < 256 ^ 1 := by have := hok.policy; dsimp only at this; omega
 have cpo : IntKind.u64.wrap po = npo := by rw [epo]; exact u64_small _ (by omega)
 obtain ⟨nsk, esk⟩ : ∃ nsk : Nat, sk = (nsk : Int) := ⟨sk.toNat, by have := hok.sku; dsimp only at this; omega⟩
 have bsk : nsk < 256 ^ 1 := by have := hok.sku; dsimp only at this; omega
 have csk : IntKind.u64.wrap sk = nsk := by rw [esk]; exact u64_small _ (by omega)
 obtain ⟨nfr, efr⟩ : ∃ nfr : Nat, fr = (nfr : Int) := ⟨fr.toNat, by have := hok.frm; dsimp only at this; omega⟩
 have bfr : nfr < 256 ^ 1 := by have := hok.frm; dsimp only at this; omega
 have cfr : IntKind.u64.wrap fr = nfr := by rw [efr]; exact u64_small _ (by omega)
 obtain ⟨nto, eto⟩ : ∃ nto : Nat, to = (nto : Int) := ⟨to.toNat, by have := hok.to; dsimp only at this; omega⟩
 have bto : nto < 256 ^ 1 := by have := hok.to; dsimp only at this; omega
 have cto : IntKind.u64.wrap to = nto := by rw [eto]; exact u64_small _ (by omega)
 have hq : In64 q := hok.qty
 have HQ := Lib.hid hq
 have HBY : Hid (bytesP ⟨k, od, po, L, T, M, sk, fr, to, q⟩ = le nk 1 ++ le nod 4 ++ le npo 1 ++ (le ln 1 ++ L.flatMap lnB) ++ (le tn 1 ++ T.flatMap tkBy) ++ (le wn 1 ++ M.flatMap lnB) ++ le nsk 1 ++ le nfr 1 ++ le nto 1 ++ le (u64 q) 8) := Lib.hid (by
  unfold bytesP lnsB tksB
  dsimp only
  rw [hP.l.len, hP.t.len, hP.o.len, ek, eod, epo, esk, efr, eto]
  rfl)
 have HBN : Hid ((bytesP ⟨k, od, po, L, T, M, sk, fr, to, q⟩).length ≤ 400) := Lib.hid (by
  unfold bytesP
  simp only [List.length_append, lnsB_len, tksB_len, le_len]
  rw [hP.l.len, hP.t.len, hP.o.len]
  omega)
 have HLL : Hid ((L.flatMap lnB).length = 9 * ln) := Lib.hid (by rw [lnf_len, hP.l.len])
 have HTT : Hid ((T.flatMap tkBy).length = 14 * tn) := Lib.hid (by rw [tkf_len, hP.t.len])
 have HMM : Hid ((M.flatMap lnB).length = 9 * wn) := Lib.hid (by rw [lnf_len, hP.o.len])
 obtain ⟨W1, hW1, hbx, hb1⟩ : ∃ W1, W.alloc (.cells #[.int .u8 k, .int .u32 od, .int .u8 po, .slice lp ln lcp, .slice tp tn tcp, .slice wp wn wcp, .int .u8 sk, .int .u8 fr, .int .u8 to, .int .i64 q] 38) = W1 ∧ W1.heap[W.heap.size]? = some (.cells #[.int .u8 k, .int .u32 od, .int .u8 po, .slice lp ln lcp, .slice tp tn tcp, .slice wp wn wcp, .int .u8 sk, .int .u8 fr, .int .u8 to, .int .i64 q] 38 (0, 0)) ∧ Below W.heap.size W W1 := ⟨_, rfl, alloc_block W _, (Below.refl _ _).alloc (Nat.le_refl _) _⟩
 have hgd := good_p 4 4 k od po lp ln lcp tp tn tcp wp wn wcp sk fr to q L T M W1 (hw.later hb1) (hP.later hb1) hok h1
 rw [hg] at hgd
 have HG := Lib.hid hg
 have HW1 := Lib.hid hW1
 have HB1 := Lib.hid hb1
 have HX1 := Lib.hid hbx
 have HP1 := Lib.hid (hP.later hb1)
 have HOK := Lib.hid hok
 obtain ⟨a0, a1, a2, a3, a4, a5, a6, a7, a8, a9⟩ := prog_cells k od po lp ln lcp tp tn tcp wp wn wcp sk fr to q hbx
 clear hW1 hb1 hbx hP hok hg hw h1 ek eod epo esk efr eto hq
 go_enter Tryz.func115, Tryz.ntmps115
 go_wp2_with fail
 rw [HW1.out]
 refine hgd.mono ?_
 rintro e W2 ⟨rfl, h2⟩
 have HB2 := Lib.hid h2
 clear hgd h2 a0 a1 a2 a3 a4 a5 a6 a7 a8 a9
 go_wp2_with fail
 refine (new_any 512 W2).mono ?_
 rintro e W3 ⟨rfl, rfl⟩
 -- the writer, and its box
 obtain ⟨B, hB⟩ : ∃ B, W2.heap.size = B := ⟨_, rfl⟩
 obtain ⟨W4, hW4, hs4, hbw, hb4⟩ : ∃ W4, (W2.alloc (.cells #[.int .i64 0, .int .i64 512, .slice none 0 0] 170)).alloc (wbox B) = W4 ∧ W4.heap.size = B + 2 ∧ W4.heap[B + 1]? = some (.cells #[.pointer (some ⟨B, 0, none⟩)] 175 (0, 0)) ∧ Below W2.heap.size W2 W4 := ⟨_, rfl, by simp [hB], by have := alloc_block (W2.alloc (.cells #[.int .i64 0, .int .i64 512, .slice none 0 0] 170)) (wbox B); rwa [World.size_alloc, hB] at this, ((Below.refl _ _).alloc (Nat.le_refl _) _).alloc (by simp) _⟩
 have hwr4 : Wr W4 B (.slice none 0 0) 512 (0, []) := by
  have h0 := new_wr W2 512
  rw [hB] at h0
  rw [← hW4]
  exact h0.chg (Chg.of_below (S := fun _ => False) ((Below.refl _ _).alloc (Nat.le_refl _) _)) (fun h => h) (fun _ _ h => h)
 have hWB : W.heap.size < B := by have := block_lt HX1.out; have := HB2.out.size; omega
 have hx4 := block_later HX1.out (HB2.out.trans (hb4.mono HB2.out.size))
 have HC : Hid (∀ w', Chg (fun k => k = B ∨ (Value.slice none 0 0).ownBlock = some k) W4 w' → (w'.heap[W.heap.size]? = some (.cells #[.int .u8 k, .int .u32 od, .int .u8 po, .slice lp ln lcp, .slice tp tn tcp, .slice wp wn wcp, .int .u8 sk, .int .u8 fr, .int .u8 to, .int .i64 q] 38 (0, 0)) ∧ w'.cell? ⟨B + 1, 0, none⟩ = some (.pointer (some ⟨B, 0, none⟩)))) := Lib.hid fun w' hc => ⟨(hc.block _ (block_lt hx4) (fun hk => by rcases hk with hk | hk; omega; cases hk)).trans hx4, block_cell ((hc.block _ (by omega) (fun hk => by rcases hk with hk | hk; omega; cases hk)).trans hbw) rfl⟩
 have HPM : Hid (∀ w', Chg (fun k => k = B ∨ (Value.slice none 0 0).ownBlock = some k) W4 w' → PgM w' lp ln lcp L tp tn tcp T wp wn wcp M) := Lib.hid fun w' hc => HP1.out.later (HB2.out.trans ((Chg.below (W := W2) (B := W2.heap.size) hb4 (by omega) hc (fun k hk => by rcases hk with hk | hk; omega; cases hk)).mono HB2.out.size))
 have HBE : Hid (∀ w', Chg (fun k => k = B ∨ (Value.slice none 0 0).ownBlock = some k) W4 w' → Below W.heap.size W w') := Lib.hid fun w' hc => HB1.out.trans ((HB2.out.trans ((Chg.below (W := W2) (B := W2.heap.size) hb4 (by omega) hc (fun k hk => by rcases hk with hk | hk; omega; cases hk)).mono HB2.out.size)).mono HB1.out.size)
 have HW4 := Lib.hid hW4
 have H0 := Lib.hid (Wrote.same hwr4)
 have HBB := Lib.hid hB
 clear hW4 hs4 hbw hb4 hwr4 hWB hx4
 rw [hB]
 clear hB
 go_upto_region 4 with (fail)
 rw [HW4.out]
 rw [HBB.out]
 obtain ⟨hpx, x0⟩ := HC.out _ H0.out.chg
 obtain ⟨a0, a1, a2, a3, a4, a5, a6, a7, a8, a9⟩ := prog_cells k od po lp ln lcp tp tn tcp wp wn wcp sk fr to q hpx
 clear hpx
 go_wp2_with fail
 obtain ⟨v0, h0, o0⟩ := H0.out.wr
 refine (num_w B v0 ([]) nk 1 W4 h0 (by omega) (by omega) bk (by first | omega | (simp only [List.length_append, List.length_nil, le_len, HLL.out, HTT.out, HMM.out]; omega))).mono ?_
 rintro e wk0 ⟨rfl, hw⟩
 have H1 := Lib.hid (H0.out.next o0 hw)
 clear hw h0 o0 x0 a0 a1 a2 a3 a4 a5 a6 a7 a8 a9
 obtain ⟨hpx, x0⟩ := HC.out _ H1.out.chg
 obtain ⟨a0, a1, a2, a3, a4, a5, a6, a7, a8, a9⟩ := prog_cells k od po lp ln lcp tp tn tcp wp wn wcp sk fr to q hpx
 clear hpx
 go_wp2_with fail
 obtain ⟨v1, h1, o1⟩ := H1.out.wr
 refine (num_w B v1 ([] ++ le nk 1) nod 4 wk0 h1 (by omega) (by omega) bod (by first | omega | (simp only [List.length_append, List.length_nil, le_len, HLL.out, HTT.out, HMM.out]; omega))).mono ?_
 rintro e wk1 ⟨rfl, hw⟩
 have H2 := Lib.hid (H1.out.next o1 hw)
 clear hw h1 o1 x0 a0 a1 a2 a3 a4 a5 a6 a7 a8 a9
 obtain ⟨hpx, x0⟩ := HC.out _ H2.out.chg
 obtain ⟨a0, a1, a2, a3, a4, a5, a6, a7, a8, a9⟩ := prog_cells k od po lp ln lcp tp tn tcp wp wn wcp sk fr to q hpx
 clear hpx
 go_wp2_with fail
 obtain ⟨v2, h2, o2⟩ := H2.out.wr
 refine (num_w B v2 ([] ++ le nk 1 ++ le nod 4) npo 1 wk1 h2 (by omega) (by omega) bpo (by first | omega | (simp only [List.length_append, List.length_nil, le_len, HLL.out, HTT.out, HMM.out]; omega))).mono ?_
 rintro e wk2 ⟨rfl, hw⟩
 have H3 := Lib.hid (H2.out.next o2 hw)
 clear hw h2 o2 x0 a0 a1 a2 a3 a4 a5 a6 a7 a8 a9
 obtain ⟨hpx, x0⟩ := HC.out _ H3.out.chg
 obtain ⟨a0, a1, a2, a3, a4, a5, a6, a7, a8, a9⟩ := prog_cells k od po lp ln lcp tp tn tcp wp wn wcp sk fr to q hpx
 clear hpx
 go_wp2_with fail
 obtain ⟨v3, h3, o3⟩ := H3.out.wr
 refine (wlist_ln B v3 ([] ++ le nk 1 ++ le nod 4 ++ le npo 1) lp ln lcp L wk2 h3 (fun w' hc => (HPM.out w' (H3.out.chg.trans hc fun k hk hb => by
  rcases hb with hb | hb
  · exact .inl hb
  · rcases o3 k hb with hb | hb
    · exact .inr hb
    · omega)).l) HOK.out.lines (by omega) (by first | omega | (simp only [List.length_append, List.length_nil, le_len, HLL.out, HTT.out, HMM.out]; omega))).mono ?_
 rintro e wk3 ⟨rfl, hw⟩
 have H4 := Lib.hid (H3.out.next o3 hw)
 clear hw h3 o3 x0 a0 a1 a2 a3 a4 a5 a6 a7 a8 a9
 obtain ⟨hpx, x0⟩ := HC.out _ H4.out.chg
 obtain ⟨a0, a1, a2, a3, a4, a5, a6, a7, a8, a9⟩ := prog_cells k od po lp ln lcp tp tn tcp wp wn wcp sk fr to q hpx
 clear hpx
 go_wp2_with fail
 obtain ⟨v4, h4, o4⟩ := H4.out.wr
 refine (wlist_tk B v4 ([] ++ le nk 1 ++ le nod 4 ++ le npo 1 ++ le ln 1 ++ L.flatMap lnB) tp tn tcp T wk3 h4 (fun w' hc => (HPM.out w' (H4.out.chg.trans hc fun k hk hb => by
  rcases hb with hb | hb
  · exact .inl hb
  · rcases o4 k hb with hb | hb
    · exact .inr hb
    · omega)).t) HOK.out.takes (by omega) (by first | omega | (simp only [List.length_append, List.length_nil, le_len, HLL.out, HTT.out, HMM.out]; omega))).mono ?_
 rintro e wk4 ⟨rfl, hw⟩
 have H5 := Lib.hid (H4.out.next o4 hw)
 clear hw h4 o4 x0 a0 a1 a2 a3 a4 a5 a6 a7 a8 a9
 obtain ⟨hpx, x0⟩ := HC.out _ H5.out.chg
 obtain ⟨a0, a1, a2, a3, a4, a5, a6, a7, a8, a9⟩ := prog_cells k od po lp ln lcp tp tn tcp wp wn wcp sk fr to q hpx
 clear hpx
 go_wp2_with fail
 obtain ⟨v5, h5, o5⟩ := H5.out.wr
 refine (wlist_ln B v5 ([] ++ le nk 1 ++ le nod 4 ++ le npo 1 ++ le ln 1 ++ L.flatMap lnB ++ le tn 1 ++ T.flatMap tkBy) wp wn wcp M wk4 h5 (fun w' hc => (HPM.out w' (H5.out.chg.trans hc fun k hk hb => by
  rcases hb with hb | hb
  · exact .inl hb
  · rcases o5 k hb with hb | hb
    · exact .inr hb
    · omega)).o) HOK.out.owes (by omega) (by first | omega | (simp only [List.length_append, List.length_nil, le_len, HLL.out, HTT.out, HMM.out]; omega))).mono ?_
 rintro e wk5 ⟨rfl, hw⟩
 have H6 := Lib.hid (H5.out.next o5 hw)
 clear hw h5 o5 x0 a0 a1 a2 a3 a4 a5 a6 a7 a8 a9
 obtain ⟨hpx, x0⟩ := HC.out _ H6.out.chg
 obtain ⟨a0, a1, a2, a3, a4, a5, a6, a7, a8, a9⟩ := prog_cells k od po lp ln lcp tp tn tcp wp wn wcp sk fr to q hpx
 clear hpx
 go_wp2_with fail
 obtain ⟨v6, h6, o6⟩ := H6.out.wr
 refine (num_w B v6 ([] ++ le nk 1 ++ le nod 4 ++ le npo 1 ++ le ln 1 ++ L.flatMap lnB ++ le tn 1 ++ T.flatMap tkBy ++ le wn 1 ++ M.flatMap lnB) nsk 1 wk5 h6 (by omega) (by omega) bsk (by first | omega | (simp only [List.length_append, List.length_nil, le_len, HLL.out, HTT.out, HMM.out]; omega))).mono ?_
 rintro e wk6 ⟨rfl, hw⟩
 have H7 := Lib.hid (H6.out.next o6 hw)
 clear hw h6 o6 x0 a0 a1 a2 a3 a4 a5 a6 a7 a8 a9
 obtain ⟨hpx, x0⟩ := HC.out _ H7.out.chg
 obtain ⟨a0, a1, a2, a3, a4, a5, a6, a7, a8, a9⟩ := prog_cells k od po lp ln lcp tp tn tcp wp wn wcp sk fr to q hpx
 clear hpx
 go_wp2_with fail
 obtain ⟨v7, h7, o7⟩ := H7.out.wr
 refine (num_w B v7 ([] ++ le nk 1 ++ le nod 4 ++ le npo 1 ++ le ln 1 ++ L.flatMap lnB ++ le tn 1 ++ T.flatMap tkBy ++ le wn 1 ++ M.flatMap lnB ++ le nsk 1) nfr 1 wk6 h7 (by omega) (by omega) bfr (by first | omega | (simp only [List.length_append, List.length_nil, le_len, HLL.out, HTT.out, HMM.out]; omega))).mono ?_
 rintro e wk7 ⟨rfl, hw⟩
 have H8 := Lib.hid (H7.out.next o7 hw)
 clear hw h7 o7 x0 a0 a1 a2 a3 a4 a5 a6 a7 a8 a9
 obtain ⟨hpx, x0⟩ := HC.out _ H8.out.chg
 obtain ⟨a0, a1, a2, a3, a4, a5, a6, a7, a8, a9⟩ := prog_cells k od po lp ln lcp tp tn tcp wp wn wcp sk fr to q hpx
 clear hpx
 go_wp2_with fail
 obtain ⟨v8, h8, o8⟩ := H8.out.wr
 refine (num_w B v8 ([] ++ le nk 1 ++ le nod 4 ++ le npo 1 ++ le ln 1 ++ L.flatMap lnB ++ le tn 1 ++ T.flatMap tkBy ++ le wn 1 ++ M.flatMap lnB ++ le nsk 1 ++ le nfr 1) nto 1 wk7 h8 (by omega) (by omega) bto (by first | omega | (simp only [List.length_append, List.length_nil, le_len, HLL.out, HTT.out, HMM.out]; omega))).mono ?_
 rintro e wk8 ⟨rfl, hw⟩
 have H9 := Lib.hid (H8.out.next o8 hw)
 clear hw h8 o8 x0 a0 a1 a2 a3 a4 a5 a6 a7 a8 a9
 obtain ⟨hpx, x0⟩ := HC.out _ H9.out.chg
 obtain ⟨a0, a1, a2, a3, a4, a5, a6, a7, a8, a9⟩ := prog_cells k od po lp ln lcp tp tn tcp wp wn wcp sk fr to q hpx
 clear hpx
 go_wp2_with fail
 obtain ⟨v9, h9, o9⟩ := H9.out.wr
 refine (int_w B v9 ([] ++ le nk 1 ++ le nod 4 ++ le npo 1 ++ le ln 1 ++ L.flatMap lnB ++ le tn 1 ++ T.flatMap tkBy ++ le wn 1 ++ M.flatMap lnB ++ le nsk 1 ++ le nfr 1 ++ le nto 1) q wk8 h9 HQ.out (by first | omega | (simp only [List.length_append, List.length_nil, le_len, HLL.out, HTT.out, HMM.out]; omega))).mono ?_
 rintro e wk9 ⟨rfl, hw⟩
 have H10 := Lib.hid (H9.out.next o9 hw)
 clear hw h9 o9 x0 a0 a1 a2 a3 a4 a5 a6 a7 a8 a9
 obtain ⟨hpx, x0⟩ := HC.out _ H10.out.chg
 obtain ⟨a0, a1, a2, a3, a4, a5, a6, a7, a8, a9⟩ := prog_cells k od po lp ln lcp tp tn tcp wp wn wcp sk fr to q hpx
 clear hpx
 go_wp2_with fail
 obtain ⟨v10, h10, o10⟩ := H10.out.wr
 have hby : ([] ++ le nk 1 ++ le nod 4 ++ le npo 1 ++ le ln 1 ++ L.flatMap lnB ++ le tn 1 ++ T.flatMap tkBy ++ le wn 1 ++ M.flatMap lnB ++ le nsk 1 ++ le nfr 1 ++ le nto 1 ++ le (u64 q) 8 : List Nat) = bytesP ⟨k, od, po, L, T, M, sk, fr, to, q⟩ := by
  rw [HBY.out]
  simp only [List.append_assoc, List.nil_append]
 rw [hby] at h10
 refine (done_any B v10 512 (0, bytesP ⟨k, od, po, L, T, M, sk, fr, to, q⟩) wk9 h10 (by have := HBN.out; dsimp only; omega)).mono ?_
 rintro e w11 ⟨hb11, hd⟩
 rw [if_pos rfl] at hd
 obtain ⟨vv, rfl, hrow, hown⟩ := hd
 obtain ⟨pp, cc, hv, hcm, hsl, hbk⟩ := hrow.sl
 subst hv
 have hbe := HBE.out _ H10.out.chg
 have HF : Hid (GivesY W ⟨k, od, po, L, T, M, sk, fr, to, q⟩ (.returned (.tuple #[.slice pp (bytesP ⟨k, od, po, L, T, M, sk, fr, to, q⟩).length cc, .int .i64 0])) w11) := Lib.hid ⟨hbe.trans (hb11.mono hbe.size), by
  rw [if_pos HG.out]
  exact ⟨pp, cc, rfl, hsl, hcm, fun a ha => Nat.le_trans hbe.size (hown _ (hbk a ha))⟩⟩
 clear hb11 hrow hown hcm hsl hbk h10 o10 x0 a0 a1 a2 a3 a4 a5 a6 a7 a8 a9 hby hbe
 generalize bytesP ⟨k, od, po, L, T, M, sk, fr, to, q⟩ = bb at *
 go_wp2_with fail
 go_ret2
 exact HF.out
theorem encode_p (k od po : Int) (lp : Option Addr) (ln lcp : Nat) (tp : Option Addr) (tn tcp : Nat) (wp : Option Addr) (wn wcp : Nat) (sk fr to q : Int) (L : List Ln) (T : List Tk) (M : List Ln) (W : World) (hw : Words W) (hP : PgM W lp ln lcp L tp tn tcp T wp wn wcp M) (hok : Pgok ⟨k, od, po, L, T, M, sk, fr, to, q⟩) (h1 : ln ≤ 400 ∧ tn ≤ 400 ∧ wn ≤ 400) :
 Calls Tryz.prog 115 #[.agg #[.int .u8 k, .int .u32 od, .int .u8 po, .slice lp ln lcp, .slice tp tn tcp, .slice wp wn wcp, .int .u8 sk, .int .u8 fr, .int .u8 to, .int .i64 q]] W (GivesY W ⟨k, od, po, L, T, M, sk, fr, to, q⟩) := by
 cases hg : goodP 4 4 ⟨k, od, po, L, T, M, sk, fr, to, q⟩ with
 | false => exact encode_no k od po lp ln lcp tp tn tcp wp wn wcp sk fr to q L T M W hw hP hok h1 hg
 | true => exact encode_yes k od po lp ln lcp tp tn tcp wp wn wcp sk fr to q L T M W hw hP hok h1 hg
structure Rx where
 k : Int
 sg : Int
 tx : Int
 st : Int
 cp : Bool
 key : K
 d : Int
 o : Int
 pg : Pg
deriving DecidableEq
structure Rxok (X : Rx) : Prop where
 k : 0 ≤ X.k ∧ X.k ≤ 255
 sg : 0 ≤ X.sg ∧ X.sg ≤ 4294967295
 tx : 0 ≤ X.tx ∧ X.tx ≤ 4294967295
 st : 0 ≤ X.st ∧ X.st ≤ 255
 key : Kok X.key
 d : In64 X.d
 o : 0 ≤ X.o ∧ X.o ≤ 255
 pg : Pgok X.pg
def kS (k : Int) : Bool := k == 1 || k == 2 || k == 8 || k == 9
def kT (k : Int) : Bool := k == 2 || k == 3 || k == 4 || k == 5 || k == 6 || k == 7
def kB (k : Int) : Bool := k == 2
def kA (k : Int) : Bool := k == 3 || k == 6
def kO (k : Int) : Bool := k == 9
def kP (k : Int) : Bool := k == 1
def kOk (k : Int) : Bool := k == 1 || k == 2 || k == 3 || k == 4 || k == 5 || k == 6 || k == 7 || k == 8 || k == 9
def stepB (h : Bool) (st : Int) (cp : Bool) : Bool := if h then decide (st < 5) else (st == 0 && !cp)
def addB (h : Bool) (key : K) (d : Int) : Bool := if h then (goodB 4 4 key.1 key.2.1 key.2.2 && d != 0) && d != -9223372036854775808 else (decide (key = (0, 0, 0)) && d == 0)
def outB (h : Bool) (o : Int) : Bool := if h then (o == 1 || o == 2) else o == 0
def progB (h : Bool) (pg : Pg) : Bool := if h then goodP 4 4 pg else decide (pg = noP)
def goodX (X : Rx) : Bool := kOk X.k && (kS X.k == (X.sg != 0)) && (kT X.k == (X.tx != 0)) && stepB (kB X.k) X.st X.cp && addB (kA X.k) X.key X.d && outB (kO X.k) X.o && progB (kP X.k) X.pg
def bitN (b : Bool) : Nat := if b then 1 else 0
def keyB (k : K) : List Nat := [k.1.toNat, k.2.1.toNat, k.2.2.toNat]
def bytesX (X : Rx) : List Nat := le X.k.toNat 1 ++ ((if kS X.k then le X.sg.toNat 4 else []) ++ ((if kT X.k then le X.tx.toNat 4 else []) ++ ((if kB X.k then le X.st.toNat 1 ++ [bitN X.cp] else []) ++ ((if kA X.k then keyB X.key ++ le (u64 X.d) 8 else []) ++ ((if kO X.k then le X.o.toNat 1 else []) ++ (if kP X.k then le (bytesP X.pg).length 2 ++ bytesP X.pg else []))))))
theorem kOk_cases {k : Int} (h : kOk k = true) : k = 1 ∨ k = 2 ∨ k = 3 ∨ k = 4 ∨ k = 5 ∨ k = 6 ∨ k = 7 ∨ k = 8 ∨ k = 9 := by
 simp only [kOk, Bool.or_eq_true, beq_iff_eq] at h
 omega
theorem goodX_kOk {X : Rx} (h : goodX X = true) : kOk X.k = true := by
 unfold goodX at h
 simp only [Bool.and_eq_true] at h
 exact h.1.1.1.1.1.1
theorem goodX_prog {X : Rx} (h : goodX X = true) : progB (kP X.k) X.pg = true := by
 unfold goodX at h
 simp only [Bool.and_eq_true] at h
 exact h.2
theorem pg_few {P : Pg} (h : goodP 4 4 P = true) : (bytesP P).length ≤ 400 := by
 obtain ⟨s1, s2, s3⟩ := good_small h
 unfold bytesP lnsB tksB
 simp only [List.length_append, le_len, lnf_len, tkf_len]
 omega
def lenK (k : Int) : Nat := if k = 1 then 7 else if k = 2 then 11 else if k = 3 ∨ k = 6 then 16 else if k = 9 then 6 else 5
theorem bytes_len {X : Rx} (h : kOk X.k = true) : (bytesX X).length = lenK X.k + if X.k = 1 then (bytesP X.pg).length else 0 := by
 unfold bytesX
 rcases kOk_cases h with h | h | h | h | h | h | h | h | h <;> rw [h] <;> simp [kS, kT, kB, kA, kO, kP, lenK, le_len, keyB] <;> omega
structure Rv where
 k : Int
 sg : Int
 tx : Int
 st : Int
 cp : Bool
 ka : Int
 kb : Int
 kc : Int
 d : Int
 o : Int
 pk : Int
 od : Int
 po : Int
 lp : Option Addr
 ln : Nat
 lcp : Nat
 tp : Option Addr
 tn : Nat
 tcp : Nat
 wp : Option Addr
 wn : Nat
 wcp : Nat
 sk : Int
 fr : Int
 to : Int
 q : Int
def pcs (r : Rv) : Array Value := #[.int .u8 r.pk, .int .u32 r.od, .int .u8 r.po, .slice r.lp r.ln r.lcp, .slice r.tp r.tn r.tcp, .slice r.wp r.wn r.wcp, .int .u8 r.sk, .int .u8 r.fr, .int .u8 r.to, .int .i64 r.q]
def rcs (r : Rv) : Array Value := #[.int .u8 r.k, .int .u32 r.sg, .int .u32 r.tx, .int .u8 r.st, .bool r.cp, .int .u8 r.ka, .int .u8 r.kb, .int .u8 r.kc, .int .i64 r.d, .int .u8 r.o, .int .u8 r.pk, .int .u32 r.od, .int .u8 r.po, .slice r.lp r.ln r.lcp, .slice r.tp r.tn r.tcp, .slice r.wp r.wn r.wcp, .int .u8 r.sk, .int .u8 r.fr, .int .u8 r.to, .int .i64 r.q]
def rz : Rv := ⟨0, 0, 0, 0, false, 0, 0, 0, 0, 0, 0, 0, 0, none, 0, 0, none, 0, 0, none, 0, 0, 0, 0, 0, 0⟩
def Rv.pg (r : Rv) (L : List Ln) (T : List Tk) (M : List Ln) : Pg := ⟨r.pk, r.od, r.po, L, T, M, r.sk, r.fr, r.to, r.q⟩
def Rv.x (r : Rv) (L : List Ln) (T : List Tk) (M : List Ln) : Rx := ⟨r.k, r.sg, r.tx, r.st, r.cp, (r.ka, r.kb, r.kc), r.d, r.o, r.pg L T M⟩
abbrev RvM (w : World) (r : Rv) (L : List Ln) (T : List Tk) (M : List Ln) : Prop := PgM w r.lp r.ln r.lcp L r.tp r.tn r.tcp T r.wp r.wn r.wcp M
def RB (w : World) (B : Nat) (r : Rv) : Prop := w.heap[B]? = some (.cells (rcs r) 40 (0, 0))
theorem RB.later {w w' : World} {B : Nat} {r : Rv} (h : RB w B r) (hb : Below w.heap.size w w') : RB w' B r := block_later h hb
theorem RB.new (w : World) (r : Rv) : RB (w.alloc (.cells (rcs r) 40)) w.heap.size r := alloc_block _ _
theorem RB.lt {w : World} {B : Nat} {r : Rv} (h : RB w B r) : B < w.heap.size := block_lt h
theorem RB.at {w : World} {B : Nat} {r : Rv} (h : RB w B r) : w.cell? ⟨B, 0, none⟩ = some (.int .u8 r.k) ∧ w.cell? ⟨B, 1, none⟩ = some (.int .u32 r.sg) ∧ w.cell? ⟨B, 2, none⟩ = some (.int .u32 r.tx) ∧ w.cell? ⟨B, 3, none⟩ = some (.int .u8 r.st) ∧ w.cell? ⟨B, 4, none⟩ = some (.bool r.cp) ∧ w.cell? ⟨B, 5, none⟩ = some (.int .u8 r.ka) ∧ w.cell? ⟨B, 6, none⟩ = some (.int .u8 r.kb) ∧ w.cell? ⟨B, 7, none⟩ = some (.int .u8 r.kc) ∧ w.cell? ⟨B, 8, none⟩ = some (.int .i64 r.d) ∧ w.cell? ⟨B, 9, none⟩ = some (.int .u8 r.o) :=
 ⟨block_cell h rfl, block_cell h rfl, block_cell h rfl, block_cell h rfl, block_cell h rfl, block_cell h rfl, block_cell h rfl, block_cell h rfl, block_cell h rfl, block_cell h rfl⟩
theorem RB.free {w : World} {B : Nat} {r : Rv} (h : RB w B r) (j : Nat) : w.frozen? ⟨B, j, none⟩ = false := block_free j h
theorem RB.put {w : World} {B : Nat} {r : Rv} (h : RB w B r) (j : Nat) (v : Value) (r' : Rv) (he : (rcs r).setIfInBounds j v = rcs r') : RB (w.setCell ⟨B, j, none⟩ v) B r' := by
 have := block_put j v h
 rw [he] at this
 exact this
theorem RB.chg {S : Nat → Prop} {w w' : World} {B : Nat} {r : Rv} (h : RB w B r) (hc : Chg S w w') (hs : ¬ S B) : RB w' B r := (hc.block B (block_lt h) hs).trans h
theorem RB.set {w : World} {B : Nat} {r : Rv} (h : RB w B r) (r' : Rv) : RB (w.setRow B (rcs r')) B r' := setRow_heap _ _ _ _ _ _ h
theorem wpList_load_rc {ops : Array Oper} {rest : List Oper} {a : Act} {w : World} {Q : Exit → Act → World → Prop} {dst : Option Tmp} {x : Operand} {ty : TypeId} {pos : String} {after : Array Edge} {B : Nat} {r : Rv} (hC : RB w B r) (hx : a.eval x = .pointer (some ⟨B, 0, none⟩))
 (h : wpList Tryz.prog ops Q rest (a.put dst (.agg (rcs r))) w) : wpList Tryz.prog ops Q (Oper.mk dst (.load 40 x) ty pos after none :: rest) a w :=
 wpList_load_row rfl 40 x rfl B hx 40 (rcs r) (0, 0) _ hC Tryz.underlying40 rfl (by kernel_rfl) h
theorem wpList_load_rcg {ops : Array Oper} {rest : List Oper} {a : Act} {w : World} {Q : Exit → Act → World → Prop} {dst : Option Tmp} {x : Operand} {ty : TypeId} {pos : String} {after : Array Edge} {gd : Option (Nat × Bool)} {B : Nat} {r : Rv} (hC : RB w B r) (hw : Region.wanted (Oper.mk dst (.load 40 x) ty pos after gd) (yielded ops a.tmps) = true) (hx : a.eval x = .pointer (some ⟨B, 0, none⟩))
 (h : wpList Tryz.prog ops Q rest (a.put dst (.agg (rcs r))) w) : wpList Tryz.prog ops Q (Oper.mk dst (.load 40 x) ty pos after gd :: rest) a w :=
 wpList_step fun K hK => by
  rw [if_pos hw]
  exact wp_load_row 40 x rfl B hx 40 (rcs r) (0, 0) _ hC Tryz.underlying40 rfl (by kernel_rfl) (hK _ _ h)
theorem rcs_prog (r : Rv) : ∀ j, j < (pcs r).size → (rcs r)[10 + j]? = (pcs r)[j]? := by
 intro j hj
 have h10 : j < 10 := hj
 rcases (by omega : j = 0 ∨ j = 1 ∨ j = 2 ∨ j = 3 ∨ j = 4 ∨ j = 5 ∨ j = 6 ∨ j = 7 ∨ j = 8 ∨ j = 9) with rfl | rfl | rfl | rfl | rfl | rfl | rfl | rfl | rfl | rfl <;> rfl
theorem wpList_load_pr {ops : Array Oper} {rest : List Oper} {a : Act} {w : World} {Q : Exit → Act → World → Prop} {dst : Option Tmp} {x : Operand} {ty : TypeId} {pos : String} {after : Array Edge} {B : Nat} {r : Rv} (hC : RB w B r) (hx : a.eval x = .pointer (some ⟨B, 10, none⟩))
 (h : wpList Tryz.prog ops Q rest (a.put dst (.agg (pcs r))) w) : wpList Tryz.prog ops Q (Oper.mk dst (.load 38 x) ty pos after none :: rest) a w :=
 wpList_load_part rfl 38 x rfl B 10 hx 40 (rcs r) (pcs r) (0, 0) _ hC (rcs_prog r) Tryz.underlying38 rfl (by kernel_rfl) h
def ptc (k : Int) : Array Value := #[.bool (kS k), .bool (kT k), .bool (kB k), .bool (kA k), .bool (kO k), .bool (kP k)]
abbrev pz : Array Value := #[.bool false, .bool false, .bool false, .bool false, .bool false, .bool false]
theorem wpList_store_pt (C : Array Value) (hC : C.size = 6) (h1 : C.all (·.oneCell') = true) {ops : Array Oper} {rest : List Oper} {a : Act} {w : World} {Q : Exit → Act → World → Prop} {dst : Option Tmp} {x y : Operand} {ty : TypeId} {pos : String} {after : Array Edge} {B : Nat} (hB : w.heap[B]? = some (.cells pz 89 (0, 0)))
 (hx : a.eval x = .pointer (some ⟨B, 0, none⟩)) (hy : a.eval y = .agg C)
 (h : wpList Tryz.prog ops Q rest (a.put dst undef) (w.setRow B C)) : wpList Tryz.prog ops Q (Oper.mk dst (.store 89 x y) ty pos after none :: rest) a w :=
 wpList_store_row rfl 89 x y rfl B C hx hy 89 pz hB (by rw [hC]; kernel_rfl) (by rw [hC]; rfl) h1 h
theorem results_pt {fn : Func} (h : fn.results = #[.cell 2 89, .tmp 3]) (tmps : Array Value) (W : World) (R : Nat) (C : Array Value) (v : Value) (hp : tmps.getD 2 undef = .pointer (some ⟨R, 0, none⟩)) (hv : tmps.getD 3 undef = v)
 (hB : W.heap[R]? = some (.cells C 89 (0, 0))) (hC : C.size = 6) : (results fn tmps).run Tryz.prog W = .ok (.tuple #[.agg C, v]) W := by
 rw [results_cell_tmp h, hp, hv]
 simp [asAddr, Result.andThen, run_loadVar_row W R 89 89 C (0, 0) _ hB Tryz.underlying89 rfl (by rw [hC]; kernel_rfl)]
def GivesPt (W : World) (k : Int) (e : Ending) (w' : World) : Prop := e = .returned (.tuple #[.agg (ptc k), .bool (kOk k)]) ∧ Below W.heap.size W w'
set_option maxHeartbeats 4000000 in
theorem parts_any (k : Int) (W : World) : Calls Tryz.prog 45 #[.int .u8 k] W (GivesPt W k) := by
 obtain ⟨R, hR⟩ : ∃ R, W.heap.size = R := ⟨_, rfl⟩
 obtain ⟨W0, hW0, hr0, hb0⟩ : ∃ W0, W.alloc (.cells pz 89) = W0 ∧ W0.heap[R]? = some (.cells pz 89 (0, 0)) ∧ Below W.heap.size W W0 := ⟨_, rfl, by rw [← hR]; exact alloc_block W _, (Below.refl _ _).alloc (Nat.le_refl _) _⟩
 have HRE := Lib.hid hR
 have HW0 := Lib.hid hW0
 have HR0 := Lib.hid hr0
 have HB0 := Lib.hid hb0
 have HLE : Hid (W.heap.size ≤ R) := Lib.hid (by omega)
 clear hR hW0 hr0 hb0
 by_cases h1 : k = 1
 case pos =>
  subst h1
  have HF := Lib.hid (setRow_heap W0 R _ #[.bool true, .bool false, .bool false, .bool false, .bool false, .bool true] _ _ HR0.out)
  have HS6 : Hid ((#[.bool true, .bool false, .bool false, .bool false, .bool false, .bool true] : Array Value).size = 6) := Lib.hid rfl
  have HA6 : Hid ((#[.bool true, .bool false, .bool false, .bool false, .bool false, .bool true] : Array Value).all (·.oneCell') = true) := Lib.hid (by simp [Value.oneCell'])
  have HG : Hid (GivesPt W 1 (.returned (.tuple #[.agg #[.bool true, .bool false, .bool false, .bool false, .bool false, .bool true], .bool true])) (W0.setRow R #[.bool true, .bool false, .bool false, .bool false, .bool false, .bool true])) := Lib.hid ⟨rfl, below_setRow HB0.out HLE.out #[.bool true, .bool false, .bool false, .bool false, .bool false, .bool true]⟩
  go_enter Tryz.func45, Tryz.ntmps45
  go_upto_region 1 with (fail)
  rw [HW0.out, HRE.out]
  go_wp2_with ((with_reducible refine wpList_store_pt #[.bool true, .bool false, .bool false, .bool false, .bool false, .bool true] HS6.out HA6.out HR0.out ?_ ?_ ?_); rfl; rfl)
  (try simp only [Exit.inBlock, Exit.then])
  refine bodyPost_ret (v := .tuple #[.agg #[.bool true, .bool false, .bool false, .bool false, .bool false, .bool true], .bool true]) ?_ rfl HG.out
  exact results_pt rfl _ _ R #[.bool true, .bool false, .bool false, .bool false, .bool false, .bool true] _ rfl rfl HF.out rfl
 by_cases h2 : k = 2
 case pos =>
  subst h2
  clear h1
  have HF := Lib.hid (setRow_heap W0 R _ #[.bool true, .bool true, .bool true, .bool false, .bool false, .bool false] _ _ HR0.out)
  have HS6 : Hid ((#[.bool true, .bool true, .bool true, .bool false, .bool false, .bool false] : Array Value).size = 6) := Lib.hid rfl
  have HA6 : Hid ((#[.bool true, .bool true, .bool true, .bool false, .bool false, .bool false] : Array Value).all (·.oneCell') = true) := Lib.hid (by simp [Value.oneCell'])
  have HG : Hid (GivesPt W 2 (.returned (.tuple #[.agg #[.bool true, .bool true, .bool true, .bool false, .bool false, .bool false], .bool true])) (W0.setRow R #[.bool true, .bool true, .bool true, .bool false, .bool false, .bool false])) := Lib.hid ⟨rfl, below_setRow HB0.out HLE.out #[.bool true, .bool true, .bool true, .bool false, .bool false, .bool false]⟩
  go_enter Tryz.func45, Tryz.ntmps45
  go_upto_region 1 with (fail)
  rw [HW0.out, HRE.out]
  go_wp2_with ((with_reducible refine wpList_store_pt #[.bool true, .bool true, .bool true, .bool false, .bool false, .bool false] HS6.out HA6.out HR0.out ?_ ?_ ?_); rfl; rfl)
  (try simp only [Exit.inBlock, Exit.then])
  refine bodyPost_ret (v := .tuple #[.agg #[.bool true, .bool true, .bool true, .bool false, .bool false, .bool false], .bool true]) ?_ rfl HG.out
  exact results_pt rfl _ _ R #[.bool true, .bool true, .bool true, .bool false, .bool false, .bool false] _ rfl rfl HF.out rfl
 by_cases h3 : k = 3
 case pos =>
  subst h3
  clear h1
  clear h2
  have HF := Lib.hid (setRow_heap W0 R _ #[.bool false, .bool true, .bool false, .bool true, .bool false, .bool false] _ _ HR0.out)
  have HS6 : Hid ((#[.bool false, .bool true, .bool false, .bool true, .bool false, .bool false] : Array Value).size = 6) := Lib.hid rfl
  have HA6 : Hid ((#[.bool false, .bool true, .bool false, .bool true, .bool false, .bool false] : Array Value).all (·.oneCell') = true) := Lib.hid (by simp [Value.oneCell'])
  have HG : Hid (GivesPt W 3 (.returned (.tuple #[.agg #[.bool false, .bool true, .bool false, .bool true, .bool false, .bool false], .bool true])) (W0.setRow R #[.bool false, .bool true, .bool false, .bool true, .bool false, .bool false])) := Lib.hid ⟨rfl, below_setRow HB0.out HLE.out #[.bool false, .bool true, .bool false, .bool true, .bool false, .bool false]⟩
  go_enter Tryz.func45, Tryz.ntmps45
  go_upto_region 1 with (fail)
  rw [HW0.out, HRE.out]
  go_wp2_with ((with_reducible refine wpList_store_pt #[.bool false, .bool true, .bool false, .bool true, .bool false, .bool false] HS6.out HA6.out HR0.out ?_ ?_ ?_); rfl; rfl)
  (try simp only [Exit.inBlock, Exit.then])
  refine bodyPost_ret (v := .tuple #[.agg #[.bool false, .bool true, .bool false, .bool true, .bool false, .bool false], .bool true]) ?_ rfl HG.out
  exact results_pt rfl _ _ R #[.bool false, .bool true, .bool false, .bool true, .bool false, .bool false] _ rfl rfl HF.out rfl
 by_cases h4 : k = 4
 case pos =>
  subst h4
  clear h1
  clear h2
  clear h3
  have HF := Lib.hid (setRow_heap W0 R _ #[.bool false, .bool true, .bool false, .bool false, .bool false, .bool false] _ _ HR0.out)
  have HS6 : Hid ((#[.bool false, .bool true, .bool false, .bool false, .bool false, .bool false] : Array Value).size = 6) := Lib.hid rfl
  have HA6 : Hid ((#[.bool false, .bool true, .bool false, .bool false, .bool false, .bool false] : Array Value).all (·.oneCell') = true) := Lib.hid (by simp [Value.oneCell'])
  have HG : Hid (GivesPt W 4 (.returned (.tuple #[.agg #[.bool false, .bool true, .bool false, .bool false, .bool false, .bool false], .bool true])) (W0.setRow R #[.bool false, .bool true, .bool false, .bool false, .bool false, .bool false])) := Lib.hid ⟨rfl, below_setRow HB0.out HLE.out #[.bool false, .bool true, .bool false, .bool false, .bool false, .bool false]⟩
  go_enter Tryz.func45, Tryz.ntmps45
  go_upto_region 1 with (fail)
  rw [HW0.out, HRE.out]
  go_wp2_with ((with_reducible refine wpList_store_pt #[.bool false, .bool true, .bool false, .bool false, .bool false, .bool false] HS6.out HA6.out HR0.out ?_ ?_ ?_); rfl; rfl)
  (try simp only [Exit.inBlock, Exit.then])
  refine bodyPost_ret (v := .tuple #[.agg #[.bool false, .bool true, .bool false, .bool false, .bool false, .bool false], .bool true]) ?_ rfl HG.out
  exact results_pt rfl _ _ R #[.bool false, .bool true, .bool false, .bool false, .bool false, .bool false] _ rfl rfl HF.out rfl
 by_cases h5 : k = 5
 case pos =>
  subst h5
  clear h1
  clear h2
  clear h3
  clear h4
  have HF := Lib.hid (setRow_heap W0 R _ #[.bool false, .bool true, .bool false, .bool false, .bool false, .bool false] _ _ HR0.out)
  have HS6 : Hid ((#[.bool false, .bool true, .bool false, .bool false, .bool false, .bool false] : Array Value).size = 6) := Lib.hid rfl
  have HA6 : Hid ((#[.bool false, .bool true, .bool false, .bool false, .bool false, .bool false] : Array Value).all (·.oneCell') = true) := Lib.hid (by simp [Value.oneCell'])
  have HG : Hid (GivesPt W 5 (.returned (.tuple #[.agg #[.bool false, .bool true, .bool false, .bool false, .bool false, .bool false], .bool true])) (W0.setRow R #[.bool false, .bool true, .bool false, .bool false, .bool false, .bool false])) := Lib.hid ⟨rfl, below_setRow HB0.out HLE.out #[.bool false, .bool true, .bool false, .bool false, .bool false, .bool false]⟩
  go_enter Tryz.func45, Tryz.ntmps45
  go_upto_region 1 with (fail)
  rw [HW0.out, HRE.out]
  go_wp2_with ((with_reducible refine wpList_store_pt #[.bool false, .bool true, .bool false, .bool false, .bool false, .bool false] HS6.out HA6.out HR0.out ?_ ?_ ?_); rfl; rfl)
  (try simp only [Exit.inBlock, Exit.then])
  refine bodyPost_ret (v := .tuple #[.agg #[.bool false, .bool true, .bool false, .bool false, .bool false, .bool false], .bool true]) ?_ rfl HG.out
  exact results_pt rfl _ _ R #[.bool false, .bool true, .bool false, .bool false, .bool false, .bool false] _ rfl rfl HF.out rfl
 by_cases h6 : k = 6
 case pos =>
  subst h6
  clear h1
  clear h2
  clear h3
  clear h4
  clear h5
  have HF := Lib.hid (setRow_heap W0 R _ #[.bool false, .bool true, .bool false, .bool true, .bool false, .bool false] _ _ HR0.out)
  have HS6 : Hid ((#[.bool false, .bool true, .bool false, .bool true, .bool false, .bool false] : Array Value).size = 6) := Lib.hid rfl
  have HA6 : Hid ((#[.bool false, .bool true, .bool false, .bool true, .bool false, .bool false] : Array Value).all (·.oneCell') = true) := Lib.hid (by simp [Value.oneCell'])
  have HG : Hid (GivesPt W 6 (.returned (.tuple #[.agg #[.bool false, .bool true, .bool false, .bool true, .bool false, .bool false], .bool true])) (W0.setRow R #[.bool false, .bool true, .bool false, .bool true, .bool false, .bool false])) := Lib.hid ⟨rfl, below_setRow HB0.out HLE.out #[.bool false, .bool true, .bool false, .bool true, .bool false, .bool false]⟩
  go_enter Tryz.func45, Tryz.ntmps45
  go_upto_region 1 with (fail)
  rw [HW0.out, HRE.out]
  go_wp2_with ((with_reducible refine wpList_store_pt #[.bool false, .bool true, .bool false, .bool true, .bool false, .bool false] HS6.out HA6.out HR0.out ?_ ?_ ?_); rfl; rfl)
  (try simp only [Exit.inBlock, Exit.then])
  refine bodyPost_ret (v := .tuple #[.agg #[.bool false, .bool true, .bool false, .bool true, .bool false, .bool false], .bool true]) ?_ rfl HG.out
  exact results_pt rfl _ _ R #[.bool false, .bool true, .bool false, .bool true, .bool false, .bool false] _ rfl rfl HF.out rfl
 by_cases h7 : k = 7
 case pos =>
  subst h7
  clear h1
  clear h2
  clear h3
  clear h4
  clear h5
  clear h6
  have HF := Lib.hid (setRow_heap W0 R _ #[.bool false, .bool true, .bool false, .bool false, .bool false, .bool false] _ _ HR0.out)
  have HS6 : Hid ((#[.bool false, .bool true, .bool false, .bool false, .bool false, .bool false] : Array Value).size = 6) := Lib.hid rfl
  have HA6 : Hid ((#[.bool false, .bool true, .bool false, .bool false, .bool false, .bool false] : Array Value).all (·.oneCell') = true) := Lib.hid (by simp [Value.oneCell'])
  have HG : Hid (GivesPt W 7 (.returned (.tuple #[.agg #[.bool false, .bool true, .bool false, .bool false, .bool false, .bool false], .bool true])) (W0.setRow R #[.bool false, .bool true, .bool false, .bool false, .bool false, .bool false])) := Lib.hid ⟨rfl, below_setRow HB0.out HLE.out #[.bool false, .bool true, .bool false, .bool false, .bool false, .bool false]⟩
  go_enter Tryz.func45, Tryz.ntmps45
  go_upto_region 1 with (fail)
  rw [HW0.out, HRE.out]
  go_wp2_with ((with_reducible refine wpList_store_pt #[.bool false, .bool true, .bool false, .bool false, .bool false, .bool false] HS6.out HA6.out HR0.out ?_ ?_ ?_); rfl; rfl)
  (try simp only [Exit.inBlock, Exit.then])
  refine bodyPost_ret (v := .tuple #[.agg #[.bool false, .bool true, .bool false, .bool false, .bool false, .bool false], .bool true]) ?_ rfl HG.out
  exact results_pt rfl _ _ R #[.bool false, .bool true, .bool false, .bool false, .bool false, .bool false] _ rfl rfl HF.out rfl
 by_cases h8 : k = 8
 case pos =>
  subst h8
  clear h1
  clear h2
  clear h3
  clear h4
  clear h5
  clear h6
  clear h7
  have HF := Lib.hid (setRow_heap W0 R _ #[.bool true, .bool false, .bool false, .bool false, .bool false, .bool false] _ _ HR0.out)
  have HS6 : Hid ((#[.bool true, .bool false, .bool false, .bool false, .bool false, .bool false] : Array Value).size = 6) := Lib.hid rfl
  have HA6 : Hid ((#[.bool true, .bool false, .bool false, .bool false, .bool false, .bool false] : Array Value).all (·.oneCell') = true) := Lib.hid (by simp [Value.oneCell'])
  have HG : Hid (GivesPt W 8 (.returned (.tuple #[.agg #[.bool true, .bool false, .bool false, .bool false, .bool false, .bool false], .bool true])) (W0.setRow R #[.bool true, .bool false, .bool false, .bool false, .bool false, .bool false])) := Lib.hid ⟨rfl, below_setRow HB0.out HLE.out #[.bool true, .bool false, .bool false, .bool false, .bool false, .bool false]⟩
  go_enter Tryz.func45, Tryz.ntmps45
  go_upto_region 1 with (fail)
  rw [HW0.out, HRE.out]
  go_wp2_with ((with_reducible refine wpList_store_pt #[.bool true, .bool false, .bool false, .bool false, .bool false, .bool false] HS6.out HA6.out HR0.out ?_ ?_ ?_); rfl; rfl)
  (try simp only [Exit.inBlock, Exit.then])
  refine bodyPost_ret (v := .tuple #[.agg #[.bool true, .bool false, .bool false, .bool false, .bool false, .bool false], .bool true]) ?_ rfl HG.out
  exact results_pt rfl _ _ R #[.bool true, .bool false, .bool false, .bool false, .bool false, .bool false] _ rfl rfl HF.out rfl
 by_cases h9 : k = 9
 case pos =>
  subst h9
  clear h1
  clear h2
  clear h3
  clear h4
  clear h5
  clear h6
  clear h7
  clear h8
  have HF := Lib.hid (setRow_heap W0 R _ #[.bool true, .bool false, .bool false, .bool false, .bool true, .bool false] _ _ HR0.out)
  have HS6 : Hid ((#[.bool true, .bool false, .bool false, .bool false, .bool true, .bool false] : Array Value).size = 6) := Lib.hid rfl
  have HA6 : Hid ((#[.bool true, .bool false, .bool false, .bool false, .bool true, .bool false] : Array Value).all (·.oneCell') = true) := Lib.hid (by simp [Value.oneCell'])
  have HG : Hid (GivesPt W 9 (.returned (.tuple #[.agg #[.bool true, .bool false, .bool false, .bool false, .bool true, .bool false], .bool true])) (W0.setRow R #[.bool true, .bool false, .bool false, .bool false, .bool true, .bool false])) := Lib.hid ⟨rfl, below_setRow HB0.out HLE.out #[.bool true, .bool false, .bool false, .bool false, .bool true, .bool false]⟩
  go_enter Tryz.func45, Tryz.ntmps45
  go_upto_region 1 with (fail)
  rw [HW0.out, HRE.out]
  go_wp2_with ((with_reducible refine wpList_store_pt #[.bool true, .bool false, .bool false, .bool false, .bool true, .bool false] HS6.out HA6.out HR0.out ?_ ?_ ?_); rfl; rfl)
  (try simp only [Exit.inBlock, Exit.then])
  refine bodyPost_ret (v := .tuple #[.agg #[.bool true, .bool false, .bool false, .bool false, .bool true, .bool false], .bool true]) ?_ rfl HG.out
  exact results_pt rfl _ _ R #[.bool true, .bool false, .bool false, .bool false, .bool true, .bool false] _ rfl rfl HF.out rfl
 have e1 : (k == 1) = false := by simpa using h1
 have e2 : (k == 2) = false := by simpa using h2
 have e3 : (k == 3) = false := by simpa using h3
 have e4 : (k == 4) = false := by simpa using h4
 have e5 : (k == 5) = false := by simpa using h5
 have e6 : (k == 6) = false := by simpa using h6
 have e7 : (k == 7) = false := by simpa using h7
 have e8 : (k == 8) = false := by simpa using h8
 have e9 : (k == 9) = false := by simpa using h9
 have HK : Hid (ptc k = pz ∧ kOk k = false) := Lib.hid ⟨by unfold ptc kS kT kB kA kO kP; rw [e1, e2, e3, e4, e5, e6, e7, e8, e9]; rfl, by unfold kOk; rw [e1, e2, e3, e4, e5, e6, e7, e8, e9]; rfl⟩
 clear h1 h2 h3 h4 h5 h6 h7 h8 h9
 have HF := Lib.hid (setRow_heap W0 R _ pz _ _ HR0.out)
 have HS6 : Hid ((pz : Array Value).size = 6) := Lib.hid rfl
 have HA6 : Hid ((pz : Array Value).all (·.oneCell') = true) := Lib.hid (by simp [Value.oneCell'])
 have HG : Hid (GivesPt W k (.returned (.tuple #[.agg pz, .bool false])) (W0.setRow R pz)) := Lib.hid ⟨by rw [HK.out.1, HK.out.2], below_setRow HB0.out HLE.out pz⟩
 go_enter Tryz.func45, Tryz.ntmps45
 go_upto_region 1 with (fail)
 rw [HW0.out, HRE.out]
 go_wp2_with ((with_reducible refine wpList_store_pt pz HS6.out HA6.out HR0.out ?_ ?_ ?_); rfl; rfl)
 (try simp only [Exit.inBlock, Exit.then])
 refine bodyPost_ret (v := .tuple #[.agg pz, .bool false]) ?_ rfl HG.out
 exact results_pt rfl _ _ R pz _ rfl rfl HF.out rfl
theorem wpList_load_ky {ops : Array Oper} {rest : List Oper} {a : Act} {w : World} {Q : Exit → Act → World → Prop} {dst : Option Tmp} {x : Operand} {ty : TypeId} {pos : String} {after : Array Edge} {B : Nat} {r : Rv} (hC : RB w B r) (hx : a.eval x = .pointer (some ⟨B, 5, none⟩))
 (h : wpList Tryz.prog ops Q rest (a.put dst (.agg #[.int .u8 r.ka, .int .u8 r.kb, .int .u8 r.kc])) w) : wpList Tryz.prog ops Q (Oper.mk dst (.load 34 x) ty pos after none :: rest) a w :=
 wpList_load_part rfl 34 x rfl B 5 hx 40 (rcs r) #[.int .u8 r.ka, .int .u8 r.kb, .int .u8 r.kc] (0, 0) _ hC (by
  intro j hj
  have h3 : j < 3 := hj
  rcases (by omega : j = 0 ∨ j = 1 ∨ j = 2) with rfl | rfl | rfl <;> rfl) Tryz.underlying34 rfl (by kernel_rfl) h
theorem gstep_any (h : Bool) (r : Rv) (W : World) : Calls Tryz.prog 46 #[.bool h, .agg (rcs r)] W fun e w' => e = .returned (.bool (stepB h r.st r.cp)) ∧ Below W.heap.size W w' := by
 obtain ⟨W1, hW1, hb1⟩ : ∃ W1, W.alloc (.cells (rcs r) 40) = W1 ∧ Below W.heap.size W W1 := ⟨_, rfl, (Below.refl _ _).alloc (Nat.le_refl _) _⟩
 obtain ⟨B, hB⟩ : ∃ B, W.heap.size = B := ⟨_, rfl⟩
 have hrb := RB.new W r
 rw [hW1, hB] at hrb
 have HX1 := Lib.hid hrb
 have HW1 := Lib.hid hW1
 have HB1 := Lib.hid hb1
 have HRE := Lib.hid hB
 obtain ⟨c0, c1, c2, c3, c4, c5, c6, c7, c8, c9⟩ := hrb.at
 clear hW1 hb1 hB hrb
 clear c0 c1 c2 c5 c6 c7 c8 c9
 generalize r.st = st at *
 generalize r.cp = cp at *
 cases h with
 | false =>
  cases hs : (st == 0) with
  | false =>
   go_enter Tryz.func46, Tryz.ntmps46
   go_upto_region 1 with (fail)
   rw [HW1.out, HRE.out]
   go_wp2_with fail
   go_ret
   exact ⟨by simp [stepB, hs], HB1.out⟩
  | true =>
   go_enter Tryz.func46, Tryz.ntmps46
   go_upto_region 1 with (fail)
   rw [HW1.out, HRE.out]
   go_wp2_with fail
   go_ret
   exact ⟨by simp [stepB, hs], HB1.out⟩
 | true =>
  go_enter Tryz.func46, Tryz.ntmps46
  go_upto_region 1 with (fail)
  rw [HW1.out, HRE.out]
  go_wp2_with fail
  go_ret
  exact ⟨by simp [stepB], HB1.out⟩
theorem gout_any (h : Bool) (r : Rv) (W : World) : Calls Tryz.prog 48 #[.bool h, .agg (rcs r)] W fun e w' => e = .returned (.bool (outB h r.o)) ∧ Below W.heap.size W w' := by
 obtain ⟨W1, hW1, hb1⟩ : ∃ W1, W.alloc (.cells (rcs r) 40) = W1 ∧ Below W.heap.size W W1 := ⟨_, rfl, (Below.refl _ _).alloc (Nat.le_refl _) _⟩
 obtain ⟨B, hB⟩ : ∃ B, W.heap.size = B := ⟨_, rfl⟩
 have hrb := RB.new W r
 rw [hW1, hB] at hrb
 have HX1 := Lib.hid hrb
 have HW1 := Lib.hid hW1
 have HB1 := Lib.hid hb1
 have HRE := Lib.hid hB
 obtain ⟨c0, c1, c2, c3, c4, c5, c6, c7, c8, c9⟩ := hrb.at
 clear hW1 hb1 hB hrb
 clear c0 c1 c2 c3 c4 c5 c6 c7 c8
 generalize r.o = o at *
 cases h with
 | false =>
  go_enter Tryz.func48, Tryz.ntmps48
  go_upto_region 1 with (fail)
  rw [HW1.out, HRE.out]
  go_wp2_with fail
  go_ret
  exact ⟨by simp [outB], HB1.out⟩
 | true =>
  cases hs : (o == 1) with
  | false =>
   go_enter Tryz.func48, Tryz.ntmps48
   go_upto_region 1 with (fail)
   rw [HW1.out, HRE.out]
   go_wp2_with fail
   go_ret
   exact ⟨by simp [outB, hs], HB1.out⟩
  | true =>
   go_enter Tryz.func48, Tryz.ntmps48
   go_upto_region 1 with (fail)
   rw [HW1.out, HRE.out]
   go_wp2_with fail
   go_ret
   exact ⟨by simp [outB, hs], HB1.out⟩
set_option maxHeartbeats 2000000 in
theorem gadd_any (h : Bool) (r : Rv) (hb : (0 ≤ r.kb ∧ r.kb ≤ 255) ∧ (0 ≤ r.kc ∧ r.kc ≤ 255)) (W : World) : Calls Tryz.prog 47 #[.bool h, .agg (rcs r)] W fun e w' => e = .returned (.bool (addB h (r.ka, r.kb, r.kc) r.d)) ∧ Below W.heap.size W w' := by
 obtain ⟨W1, hW1, hb1⟩ : ∃ W1, W.alloc (.cells (rcs r) 40) = W1 ∧ Below W.heap.size W W1 := ⟨_, rfl, (Below.refl _ _).alloc (Nat.le_refl _) _⟩
 obtain ⟨B, hB⟩ : ∃ B, W.heap.size = B := ⟨_, rfl⟩
 have hrb := RB.new W r
 rw [hW1, hB] at hrb
 have HX1 := Lib.hid hrb
 have HW1 := Lib.hid hW1
 have HB1 := Lib.hid hb1
 have HRE := Lib.hid hB
 obtain ⟨c0, c1, c2, c3, c4, c5, c6, c7, c8, c9⟩ := hrb.at
 clear hW1 hb1 hB hrb
 clear c0 c1 c2 c3 c4 c5 c6 c7 c9
 have hkg := fun W => good_any 4 4 r.ka r.kb r.kc hb.1 hb.2 W
 have hke := fun w => key_eql r.ka r.kb r.kc 0 0 0 w
 clear hb
 generalize hdd : r.d = d at *
 cases h with
 | false =>
  clear hkg
  have HA : Hid (addB false (r.ka, r.kb, r.kc) d = (decide (((r.ka, r.kb, r.kc) : K) = (0, 0, 0)) && d == 0)) := Lib.hid rfl
  generalize decide (((r.ka, r.kb, r.kc) : K) = (0, 0, 0)) = y at *
  cases y with
  | false =>
   go_enter Tryz.func47, Tryz.ntmps47
   go_upto_region 1 with (fail)
   rw [HW1.out, HRE.out]
   go_wp2_with ((with_reducible refine wpList_load_ky HX1.out ?_ ?_); rfl)
   go_ret
   exact ⟨by rw [HA.out]; rfl, HB1.out⟩
  | true =>
   go_enter Tryz.func47, Tryz.ntmps47
   go_upto_region 1 with (fail)
   rw [HW1.out, HRE.out]
   go_wp2_with ((with_reducible refine wpList_load_ky HX1.out ?_ ?_); rfl)
   go_ret
   exact ⟨by rw [HA.out]; rfl, HB1.out⟩
 | true =>
  clear hke
  have HA : Hid (addB true (r.ka, r.kb, r.kc) d = ((goodB 4 4 r.ka r.kb r.kc && d != 0) && d != -9223372036854775808)) := Lib.hid rfl
  generalize goodB 4 4 r.ka r.kb r.kc = y at *
  cases y with
  | false =>
   go_enter Tryz.func47, Tryz.ntmps47
   go_upto_region 1 with (fail)
   rw [HW1.out, HRE.out]
   go_wp2_with ((with_reducible refine wpList_load_ky HX1.out ?_ ?_); rfl)
   refine (hkg _).mono ?_
   rintro e w2 ⟨rfl, h2⟩
   have HB2 := Lib.hid (HB1.out.trans (h2.below.mono HB1.out.size))
   clear h2 c8
   go_wp2_with fail
   go_ret
   exact ⟨by rw [HA.out]; rfl, HB2.out⟩
  | true =>
   cases hz : (d != 0) with
   | false =>
    go_enter Tryz.func47, Tryz.ntmps47
    go_upto_region 1 with (fail)
    rw [HW1.out, HRE.out]
    go_wp2_with ((with_reducible refine wpList_load_ky HX1.out ?_ ?_); rfl)
    refine (hkg _).mono ?_
    rintro e w2 ⟨rfl, h2⟩
    have HB2 := Lib.hid (HB1.out.trans (h2.below.mono HB1.out.size))
    have c8' : w2.cell? ⟨B, 8, none⟩ = some (.int .i64 d) := by rw [← hdd]; exact block_cell (HX1.out.later h2.below) rfl
    clear h2 c8 hdd
    go_wp2_with fail
    go_ret
    exact ⟨by rw [HA.out, hz]; rfl, HB2.out⟩
   | true =>
    go_enter Tryz.func47, Tryz.ntmps47
    go_upto_region 1 with (fail)
    rw [HW1.out, HRE.out]
    go_wp2_with ((with_reducible refine wpList_load_ky HX1.out ?_ ?_); rfl)
    refine (hkg _).mono ?_
    rintro e w2 ⟨rfl, h2⟩
    have HB2 := Lib.hid (HB1.out.trans (h2.below.mono HB1.out.size))
    have c8' : w2.cell? ⟨B, 8, none⟩ = some (.int .i64 d) := by rw [← hdd]; exact block_cell (HX1.out.later h2.below) rfl
    clear h2 c8 hdd
    go_wp2_with fail
    go_ret
    exact ⟨by rw [HA.out, hz]; rfl, HB2.out⟩
theorem gprog_any (h : Bool) (r : Rv) (L : List Ln) (T : List Tk) (M : List Ln) (W : World) (hw : Words W) (hP : RvM W r L T M) (hok : Pgok (r.pg L T M)) (h1 : r.ln ≤ 400 ∧ r.tn ≤ 400 ∧ r.wn ≤ 400) : Calls Tryz.prog 49 #[.bool h, .agg (rcs r)] W fun e w' => e = .returned (.bool (progB h (r.pg L T M))) ∧ Below W.heap.size W w' := by
 obtain ⟨W1, hW1, hb1⟩ : ∃ W1, W.alloc (.cells (rcs r) 40) = W1 ∧ Below W.heap.size W W1 := ⟨_, rfl, (Below.refl _ _).alloc (Nat.le_refl _) _⟩
 obtain ⟨B, hB⟩ : ∃ B, W.heap.size = B := ⟨_, rfl⟩
 have hrb := RB.new W r
 rw [hW1, hB] at hrb
 have HX1 := Lib.hid hrb
 have HW1 := Lib.hid hW1
 have HB1 := Lib.hid hb1
 have HRE := Lib.hid hB
 obtain ⟨c0, c1, c2, c3, c4, c5, c6, c7, c8, c9⟩ := hrb.at
 clear hW1 hb1 hB hrb
 clear c0 c1 c2 c3 c4 c5 c6 c7 c8 c9
 have hs := same_p r.pk r.od r.po r.lp r.ln r.lcp r.tp r.tn r.tcp r.wp r.wn r.wcp r.sk r.fr r.to r.q 0 0 0 none 0 0 none 0 0 none 0 0 0 0 0 0 L T M [] [] [] W1 (hP.later HB1.out) ⟨SlG.empty _, SlG.empty _, SlG.empty _⟩ ⟨by omega, by omega, by omega⟩ ⟨by omega, by omega, by omega⟩
 have hg := good_p 4 4 r.pk r.od r.po r.lp r.ln r.lcp r.tp r.tn r.tcp r.wp r.wn r.wcp r.sk r.fr r.to r.q L T M W1 (hw.later HB1.out) (hP.later HB1.out) hok h1
 clear hw hP hok h1
 obtain ⟨y, hy⟩ : ∃ y, decide ((⟨r.pk, r.od, r.po, L, T, M, r.sk, r.fr, r.to, r.q⟩ : Pg) = ⟨0, 0, 0, [], [], [], 0, 0, 0, 0⟩) = y := ⟨_, rfl⟩
 rw [hy] at hs
 have HA : Hid (progB false (r.pg L T M) = y) := Lib.hid hy
 clear hy
 cases h with
 | false =>
  clear hg
  go_enter Tryz.func49, Tryz.ntmps49
  go_upto_region 1 with (fail)
  rw [HW1.out, HRE.out]
  go_wp2_with ((with_reducible refine wpList_load_pr HX1.out ?_ ?_); rfl)
  refine hs.mono ?_
  rintro e w2 ⟨rfl, h2⟩
  have HB2 := Lib.hid (HB1.out.trans (h2.mono HB1.out.size))
  clear h2 hs
  go_wp2_with fail
  go_ret
  exact ⟨by rw [HA.out]; rfl, HB2.out⟩
 | true =>
  clear hs
  go_enter Tryz.func49, Tryz.ntmps49
  go_upto_region 1 with (fail)
  rw [HW1.out, HRE.out]
  go_wp2_with ((with_reducible refine wpList_load_pr HX1.out ?_ ?_); rfl)
  refine hg.mono ?_
  rintro e w2 ⟨rfl, h2⟩
  have HB2 := Lib.hid (HB1.out.trans (h2.mono HB1.out.size))
  clear h2 hg
  go_wp2_with fail
  go_ret
  exact ⟨rfl, HB2.out⟩
end Go.Proofs.YtccgjdmbongbaaaGreatDoor
