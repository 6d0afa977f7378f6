/- A program written and read, held against the document: the statement's walk. -/
import Derived.Test.YtdcanppiiikjgaaDoorPgRdec
import Derived.Test.YtdcanppiiikjgaaDoorGrProgi
import Derived.Test.YtdcanppiiikjgaaDoorPgEncode
import Derived.Test.YtdcanppiiikjgaaDoorPgEq
import Derived.Test.YtdcanppiiikjgaaDoorPgWorks
namespace Go.Proofs.YtdcanppiiikjgaaDoor
open Go.RowKit Go.ChangeShapes Go.WideShapes
set_option linter.unusedVariables false
set_option linter.unusedSimpArgs false
set_option maxRecDepth 10000

theorem dec_small (B : List Nat) : (decP B).2.lines.length ≤ 3 ∧ (decP B).2.takes.length ≤ 12 ∧ (decP B).2.owes.length ≤ 3 := by
  unfold decP
  split
  · exact ⟨Nat.zero_le _, Nat.zero_le _, Nat.zero_le _⟩
  · split
    · exact ⟨listR_most _ _ _, listR_most _ _ _, listR_most _ _ _⟩
    · exact ⟨Nat.zero_le _, Nat.zero_le _, Nat.zero_le _⟩
theorem rsame_eq2 (k od po : Int) (lp : Option Addr) (ln lcp : Nat) (tp : Option Addr) (tn tcp : Nat) (wp : Option Addr) (wn wcp : Nat) (sk fr to q : Int) (L : List Ln) (T : List Tk) (M : List Ln) (lp2 : Option Addr) (lc2 : Nat) (tp2 : Option Addr) (tc2 : Nat) (wp2 : Option Addr) (wc2 : Nat) (W : World) (hP : PgM W lp ln lcp L tp tn tcp T wp wn wcp M) (hP' : PgM W lp2 ln lc2 L tp2 tn tc2 T wp2 wn wc2 M) (h1 : ln ≤ 1000 ∧ tn ≤ 1000 ∧ wn ≤ 1000) :
    Calls Tryd.prog 23 #[.agg #[.int .u8 k, .int .u32 od, .int .u8 po, .slice lp ln lcp, .slice tp tn tcp, .slice wp wn wcp, .int .u8 sk, .int .u8 fr, .int .u8 to, .int .i64 q], .agg #[.int .u8 k, .int .u32 od, .int .u8 po, .slice lp2 ln lc2, .slice tp2 tn tc2, .slice wp2 wn wc2, .int .u8 sk, .int .u8 fr, .int .u8 to, .int .i64 q]] W fun e w' => e = .returned (.bool true) ∧ Below W.heap.size W w' :=
  (rsame_p k od po lp ln lcp tp tn tcp wp wn wcp sk fr to q k od po lp2 ln lc2 tp2 tn tc2 wp2 wn wc2 sk fr to q L T M L T M W hP hP' h1 h1).mono fun e w' h => ⟨by rw [h.1, decide_eq_true rfl], h.2⟩
theorem least_two (len B : Nat) : ∃ k : Nat, min (len : Int) (B : Int) = (k : Int) ∧ k ≤ len ∧ k ≤ B := ⟨min len B, by omega, Nat.min_le_left .., Nat.min_le_right ..⟩
theorem bytes_few2 {P : Pg} (h : goodP 4 4 P = true) : (bytesP P).length ≤ 400 := by
  obtain ⟨s1, s2, s3⟩ := good_small h
  unfold bytesP lnsB tksB
  simp only [List.length_append, le_len, lnf_len, tkf_len]
  omega
set_option maxHeartbeats 8000000 in
theorem law_bytes (k od po : Int) (lp : Option Addr) (ln lcp : Nat) (tp : Option Addr) (tn tcp : Nat) (wp : Option Addr) (wn wcp : Nat) (sk fr to q : Int) (L : List Ln) (T : List Tk) (M : List Ln) (pb : Option Addr) (nb cb : Nat) (Bs : List Nat) (W : World) (hw : Words W) (hP : PgM W lp ln lcp L tp tn tcp T wp wn wcp M) (hok : Pgok ⟨k, od, po, L, T, M, sk, fr, to, q⟩) (hS : Sl W pb nb cb Bs) (hcm : cb ≤ maxLen) :
    Calls Tryd.prog 5 #[.agg #[.int .u8 k, .int .u32 od, .int .u8 po, .slice lp ln lcp, .slice tp tn tcp, .slice wp wn wcp, .int .u8 sk, .int .u8 fr, .int .u8 to, .int .i64 q], .slice pb nb cb] W fun e w' => e = .returned (.bool true) ∧ Below W.heap.size W w' := by
  obtain ⟨W1, hW1, hbx, hb1⟩ : ∃ W1, W.alloc (.cells #[.int .u8 k, .int .u32 od, .int .u8 po, .slice lp ln lcp, .slice tp tn tcp, .slice wp wn wcp, .int .u8 sk, .int .u8 fr, .int .u8 to, .int .i64 q] 28) = W1 ∧ W1.heap[W.heap.size]? = some (.cells #[.int .u8 k, .int .u32 od, .int .u8 po, .slice lp ln lcp, .slice tp tn tcp, .slice wp wn wcp, .int .u8 sk, .int .u8 fr, .int .u8 to, .int .i64 q] 28 (0, 0)) ∧ Below W.heap.size W W1 := ⟨_, rfl, alloc_block W _, (Below.refl _ _).alloc (Nat.le_refl _) _⟩
  have HW1 := Lib.hid hW1
  have HB1 := Lib.hid hb1
  have HX1 := Lib.hid hbx
  have HP1 := Lib.hid (hP.later hb1)
  have HV1 := Lib.hid (hw.later hb1)
  have HOK := Lib.hid hok
  have HCM := Lib.hid hcm
  have HC := Lib.hid fun w' (h : Below W1.heap.size W1 w') => prog_cells k od po lp ln lcp tp tn tcp wp wn wcp sk fr to q (block_later HX1.out h)
  obtain ⟨nk, hk, hkl, hk4⟩ := least_two nb 400
  have HSB := Lib.hid ((hS.later hb1).take nk hkl)
  have hcapb := hS.cap
  obtain ⟨a0, a1, a2, a3, a4, a5, a6, a7, a8, a9⟩ := HC.out W1 (Below.refl _ _)
  have hfew := few_p k od po lp ln lcp tp tn tcp wp wn wcp sk fr to q W1
  by_cases hf : ln ≤ 20 ∧ tn ≤ 30 ∧ wn ≤ 20
  case neg =>
    rw [show fewI ln tn wn = 0 from if_neg hf] at hfew
    clear hW1 hbx hb1 hP hok hw hf hS hcm
    go_enter Tryd.func5, Tryd.ntmps5
    go_wp2_with fail
    rw [HW1.out]
    refine hfew.mono ?_
    rintro e w2 ⟨rfl, h2⟩
    have HB2 := Lib.hid h2
    clear hfew h2 a0 a1 a2 a3 a4 a5 a6 a7 a8 a9
    go_wp2_with fail
    refine (prog_works w2 (HV1.out.later HB2.out)).mono ?_
    rintro e w3 ⟨rfl, h3⟩
    have HB3 := Lib.hid (HB2.out.trans (h3.mono HB2.out.size))
    clear h3
    go_wp2_with fail
    go_ret
    exact ⟨rfl, HB1.out.trans (HB3.out.mono HB1.out.size)⟩
  rw [show fewI ln tn wn = 1 from if_pos hf] at hfew
  obtain ⟨hf1, hf2, hf3⟩ := hf
  generalize Bs.take nk = B at *
  have HHF := Lib.hid (show (ln ≤ 400 ∧ tn ≤ 400 ∧ wn ≤ 400) ∧ (ln ≤ 1000 ∧ tn ≤ 1000 ∧ wn ≤ 1000) from ⟨⟨by omega, by omega, by omega⟩, by omega, by omega, by omega⟩)
  clear hW1 hbx hb1 hP hok hw hS hcm
  go_enter Tryd.func5, Tryd.ntmps5
  go_wp2_with fail
  rw [HW1.out]
  refine hfew.mono ?_
  rintro e w2 ⟨rfl, h2⟩
  have HB2 := Lib.hid h2
  clear hfew h2 a0 a1 a2 a3 a4 a5 a6 a7 a8 a9
  obtain ⟨a0, a1, a2, a3, a4, a5, a6, a7, a8, a9⟩ := HC.out w2 HB2.out
  have hkt : (min (nb : Int) 400).toNat = nk := by omega
  go_wp2_with fail
  clear hkt
  refine (encode_p k od po lp ln lcp tp tn tcp wp wn wcp sk fr to q L T M w2 (HV1.out.later HB2.out) (HP1.out.later HB2.out) HOK.out HHF.out.1).mono ?_
  rintro e w3 ⟨hb3, hy⟩
  have HB3 := Lib.hid (HB2.out.trans (hb3.mono HB2.out.size))
  clear hb3 a0 a1 a2 a3 a4 a5 a6 a7 a8 a9
  have hgd := fun W h => rgood_p 4 4 k od po lp ln lcp tp tn tcp wp wn wcp sk fr to q L T M W h HOK.out HHF.out.2
  cases hg : goodP 4 4 ⟨k, od, po, L, T, M, sk, fr, to, q⟩
  case false =>
    rw [hg, if_neg (by decide)] at hy
    subst hy
    obtain ⟨a0, a1, a2, a3, a4, a5, a6, a7, a8, a9⟩ := HC.out w3 HB3.out
    go_wp2_with fail
    refine (hgd w3 (HP1.out.later HB3.out)).mono ?_
    rintro e w4 ⟨rfl, hb4⟩
    rw [hg]
    have HB4 := Lib.hid (HB3.out.trans (hb4.mono HB3.out.size))
    clear hg hgd hb4 a0 a1 a2 a3 a4 a5 a6 a7 a8 a9
    go_wp2_with fail
    refine (zdecode pb nk cb B w4 (HV1.out.later HB4.out) (HSB.out.later HB4.out) (by omega)).mono ?_
    rintro e w10 ⟨lp5, lc5, tp5, tc5, wp5, wc5, rfl, hP10, hb10⟩
    have hds := dec_small B
    have hrd : ∀ w, Words w → Sl w pb nk cb B → Calls Tryd.prog 22 #[.slice pb nk cb] w (GivesD w (decP B)) := fun w h1 h2 => by rw [← dec_both]; exact rdecode pb nk cb B w h1 h2 HCM.out
    generalize decP B = r at *
    obtain ⟨er, k2, od2, po2, L2, T2, M2, sk2, fr2, to2, q2⟩ := r
    dsimp only at hP10 hds ⊢
    obtain ⟨ln5, hl5⟩ : ∃ n, L2.length = n := ⟨_, rfl⟩
    obtain ⟨tn5, ht5⟩ : ∃ n, T2.length = n := ⟨_, rfl⟩
    obtain ⟨wn5, hw5⟩ : ∃ n, M2.length = n := ⟨_, rfl⟩
    rw [hl5, ht5, hw5] at hP10 hds ⊢
    have HL5 : Hid (L2.length = ln5 ∧ T2.length = tn5 ∧ M2.length = wn5) := Lib.hid ⟨hl5, ht5, hw5⟩
    have HDS : Hid (ln5 ≤ 1000 ∧ tn5 ≤ 1000 ∧ wn5 ≤ 1000) := Lib.hid ⟨by omega, by omega, by omega⟩
    have HB10 := Lib.hid (HB4.out.trans (hb10.mono HB4.out.size))
    have HP10 := Lib.hid hP10
    have HRD := Lib.hid hrd
    clear hb10 hP10 hl5 ht5 hw5 hds hrd
    obtain ⟨N10, hN10⟩ : ∃ n, w10.heap.size = n := ⟨_, rfl⟩
    obtain ⟨w11, hwn, hxn, hbn⟩ : ∃ w11, (w10.alloc (.cells zc 28)).setRow N10 #[.int .u8 k2, .int .u32 od2, .int .u8 po2, .slice lp5 ln5 lc5, .slice tp5 tn5 tc5, .slice wp5 wn5 wc5, .int .u8 sk2, .int .u8 fr2, .int .u8 to2, .int .i64 q2] = w11 ∧ w11.heap[N10]? = some (.cells #[.int .u8 k2, .int .u32 od2, .int .u8 po2, .slice lp5 ln5 lc5, .slice tp5 tn5 tc5, .slice wp5 wn5 wc5, .int .u8 sk2, .int .u8 fr2, .int .u8 to2, .int .i64 q2] 28 (0, 0)) ∧ Below w10.heap.size w10 w11 := ⟨_, rfl, by rw [← hN10]; exact setRow_heap _ _ _ _ _ _ (alloc_block w10 _), below_setRow ((Below.refl _ _).alloc (Nat.le_refl _) _) (by omega) _⟩
    have hx10 := alloc_block w10 (.cells zc 28)
    rw [hN10] at hx10
    have HX11 := Lib.hid hxn
    have HX10 := Lib.hid hx10
    have HBN11 := Lib.hid hbn
    have HW11 := Lib.hid hwn
    have HN10 := Lib.hid hN10
    clear hx10 hxn hbn hwn hN10
    have HB11 := Lib.hid (HB10.out.trans (HBN11.out.mono HB10.out.size))
    have HP11 := Lib.hid (HP10.out.later HBN11.out)
    go_wp2_with ((try rw [HN10.out]); (with_reducible refine wpList_store_pg k2 od2 po2 lp5 ln5 lc5 tp5 tn5 tc5 wp5 wn5 wc5 sk2 fr2 to2 q2 HX10.out ?_ ?_ ?_); rfl; rfl; rw [HW11.out])
    refine (HRD.out w11 (HV1.out.later HB11.out) (HSB.out.later HB11.out)).mono ?_
    rintro e w20 ⟨lp6, lc6, tp6, tc6, wp6, wc6, rfl, hP20, hb20⟩
    dsimp only at hP20 ⊢
    obtain ⟨e1, e2, e3⟩ := HL5.out
    rw [e1, e2, e3] at hP20 ⊢
    have HB20 := Lib.hid (HB11.out.trans (hb20.mono HB11.out.size))
    have HX20 := Lib.hid (block_later HX11.out hb20)
    have HP5 := Lib.hid (HP11.out.later hb20)
    have HP20 := Lib.hid hP20
    clear hP20 hb20 e1 e2 e3 HX11 HX10
    have HX5 := HX20
    clear HX20
    obtain ⟨N20, hN20⟩ : ∃ n, w20.heap.size = n := ⟨_, rfl⟩
    obtain ⟨w21, hwn, hxn, hbn⟩ : ∃ w21, (w20.alloc (.cells zc 28)).setRow N20 #[.int .u8 k2, .int .u32 od2, .int .u8 po2, .slice lp6 ln5 lc6, .slice tp6 tn5 tc6, .slice wp6 wn5 wc6, .int .u8 sk2, .int .u8 fr2, .int .u8 to2, .int .i64 q2] = w21 ∧ w21.heap[N20]? = some (.cells #[.int .u8 k2, .int .u32 od2, .int .u8 po2, .slice lp6 ln5 lc6, .slice tp6 tn5 tc6, .slice wp6 wn5 wc6, .int .u8 sk2, .int .u8 fr2, .int .u8 to2, .int .i64 q2] 28 (0, 0)) ∧ Below w20.heap.size w20 w21 := ⟨_, rfl, by rw [← hN20]; exact setRow_heap _ _ _ _ _ _ (alloc_block w20 _), below_setRow ((Below.refl _ _).alloc (Nat.le_refl _) _) (by omega) _⟩
    have hx20 := alloc_block w20 (.cells zc 28)
    rw [hN20] at hx20
    have HX21 := Lib.hid hxn
    have HX20 := Lib.hid hx20
    have HBN21 := Lib.hid hbn
    have HW21 := Lib.hid hwn
    have HN20 := Lib.hid hN20
    clear hx20 hxn hbn hwn hN20
    have HB21 := Lib.hid (HB20.out.trans (HBN21.out.mono HB20.out.size))
    obtain ⟨a0, a1, a2, a3, a4, a5, a6, a7, a8, a9⟩ := prog_cells k2 od2 po2 lp5 ln5 lc5 tp5 tn5 tc5 wp5 wn5 wc5 sk2 fr2 to2 q2 (block_later HX5.out HBN21.out)
    obtain ⟨b0, b1, b2, b3, b4, b5, b6, b7, b8, b9⟩ := prog_cells k2 od2 po2 lp6 ln5 lc6 tp6 tn5 tc6 wp6 wn5 wc6 sk2 fr2 to2 q2 HX21.out
    go_wp2_with ((try rw [HN20.out]); (with_reducible refine wpList_store_pg k2 od2 po2 lp6 ln5 lc6 tp6 tn5 tc6 wp6 wn5 wc6 sk2 fr2 to2 q2 HX20.out ?_ ?_ ?_); rfl; rfl; rw [HW21.out])
    refine (rsame_eq2 k2 od2 po2 lp5 ln5 lc5 tp5 tn5 tc5 wp5 wn5 wc5 sk2 fr2 to2 q2 L2 T2 M2 lp6 lc6 tp6 tc6 wp6 wc6 w21 (HP5.out.later HBN21.out) (HP20.out.later HBN21.out) HDS.out).mono ?_
    rintro e w22 ⟨rfl, hb22⟩
    have HB22 := Lib.hid (HB21.out.trans (hb22.mono HB21.out.size))
    clear hb22 a0 a1 a2 a3 a4 a5 a6 a7 a8 a9 b0 b1 b2 b3 b4 b5 b6 b7 b8 b9
    go_wp2_with fail
    refine (prog_works w22 (HV1.out.later HB22.out)).mono ?_
    rintro e w24 ⟨rfl, h24⟩
    have HB24 := Lib.hid (HB22.out.trans (h24.mono HB22.out.size))
    clear h24
    go_wp2_with fail
    go_ret
    exact ⟨rfl, HB1.out.trans (HB24.out.mono HB1.out.size)⟩
  rw [hg, if_pos rfl] at hy
  obtain ⟨py, cy, rfl, hsy, hcy, _⟩ := hy
  have hbf := bytes_few2 hg
  have hrb : ∀ W, PgM W lp ln lcp L tp tn tcp T wp wn wcp M → Calls Tryd.prog 20 #[.agg #[.int .u8 k, .int .u32 od, .int .u8 po, .slice lp ln lcp, .slice tp tn tcp, .slice wp wn wcp, .int .u8 sk, .int .u8 fr, .int .u8 to, .int .i64 q]] W (Copied W (bytesP ⟨k, od, po, L, T, M, sk, fr, to, q⟩).length (bytesP ⟨k, od, po, L, T, M, sk, fr, to, q⟩)) := fun W h => rbytes_p k od po lp ln lcp tp tn tcp wp wn wcp sk fr to q L T M W h HOK.out ⟨hf1, hf2, hf3⟩
  have HRB := Lib.hid hrb
  have HSY := Lib.hid hsy
  generalize bytesP ⟨k, od, po, L, T, M, sk, fr, to, q⟩ = Y at *
  generalize hny : Y.length = ny at *
  clear hcy hsy hny hrb
  obtain ⟨a0, a1, a2, a3, a4, a5, a6, a7, a8, a9⟩ := HC.out w3 HB3.out
  go_wp2_with fail
  refine (hgd w3 (HP1.out.later HB3.out)).mono ?_
  rintro e w4 ⟨rfl, hb4⟩
  rw [hg]
  have HB4 := Lib.hid (HB3.out.trans (hb4.mono HB3.out.size))
  clear hg hgd a0 a1 a2 a3 a4 a5 a6 a7 a8 a9
  have HSY4 := Lib.hid (HSY.out.later hb4)
  have hbd : Below w4.heap.size w4 w4.drew := (Below.refl _ _).drew
  have HCA := Lib.hid fun w' (h : Below w4.heap.size w4 w') => HC.out w' (HB4.out.trans (h.mono HB4.out.size))
  have HRB4 := Lib.hid fun w' (h : Below w4.heap.size w4 w') => HRB.out w' (HP1.out.later (HB4.out.trans (h.mono HB4.out.size)))
  have HST : Hid (∀ p n c w, Sl w p n c Y → (convert 31 9 (.slice p n c)).run Tryd.prog w = .ok (.string (strOf Y)) w) := Lib.hid fun p n c w h => conv_sl h
  generalize strOf Y = st at *
  go_wp2_with fail
  refine wp_region_held_drew (S := fun w' => Hid (Below w4.heap.size w4 w')) (by kernel_rfl) (Lib.hid hbd) (fun hHeld => ?_)
  clear hbd
  refine wpAnyH_take (i := 0) (oi := ⟨some 35, _, _, _, _, _⟩) (v := .int .i64 0) rfl (by kernel_rfl) (by kernel_rfl) (by kernel_rfl) (fun _ _ _ h => h) (Or.inl ⟨by rfl, fun w' hw' => ?_⟩) (by assumption) ?_
  · clear hHeld
    go_simp
  simp only [Act.put, List.setIfInBounds_toArray, List.set_cons_zero, List.set_cons_succ]
  refine wpAnyH_take (i := 1) (oi := ⟨some 36, _, _, _, _, _⟩) (v := .bool false) rfl (by kernel_rfl) (by kernel_rfl) (by kernel_rfl) (fun _ _ _ h => h) (Or.inl ⟨by rfl, fun w' hw' => ?_⟩) (by assumption) ?_
  · clear hHeld
    go_simp
  simp only [Act.put, List.setIfInBounds_toArray, List.set_cons_zero, List.set_cons_succ]
  refine wpAnyH_take (i := 2) (oi := ⟨some 37, _, _, _, _, _⟩) (v := .bool false) rfl (by kernel_rfl) (by kernel_rfl) (by kernel_rfl) (fun _ _ _ h => h) (Or.inl ⟨by rfl, fun w' hw' => ?_⟩) (by assumption) ?_
  · clear hHeld
    go_simp
  simp only [Act.put, List.setIfInBounds_toArray, List.set_cons_zero, List.set_cons_succ]
  refine wpAnyH_take (i := 3) (oi := ⟨some 38, _, _, _, _, _⟩) (v := .slice py ny cy) rfl (by kernel_rfl) (by kernel_rfl) (by kernel_rfl) (fun _ _ _ h => h) (Or.inl ⟨by rfl, fun w' hw' => ?_⟩) (by assumption) ?_
  · clear hHeld
    go_simp
  simp only [Act.put, List.setIfInBounds_toArray, List.set_cons_zero, List.set_cons_succ]
  refine wpAnyH_take (i := 4) (oi := ⟨some 39, _, _, _, _, _⟩) (v := .string st) rfl (by kernel_rfl) (by kernel_rfl) (by kernel_rfl) (fun _ _ _ h => h) (Or.inl ⟨by rfl, fun w' hw' => ?_⟩) (by assumption) ?_
  · have g := HST.out py ny cy w' (HSY4.out.later hw'.out)
    clear hHeld
    go_simp
  simp only [Act.put, List.setIfInBounds_toArray, List.set_cons_zero, List.set_cons_succ]
  refine wpAnyH_take (i := 5) (oi := ⟨some 40, _, _, _, _, _⟩) (v := .agg #[.int .u8 k, .int .u32 od, .int .u8 po, .slice lp ln lcp, .slice tp tn tcp, .slice wp wn wcp, .int .u8 sk, .int .u8 fr, .int .u8 to, .int .i64 q]) rfl (by kernel_rfl) (by kernel_rfl) (by kernel_rfl) (fun _ _ _ h => h) (Or.inl ⟨by rfl, fun w' hw' => ?_⟩) (by assumption) ?_
  · obtain ⟨a0, a1, a2, a3, a4, a5, a6, a7, a8, a9⟩ := HCA.out w' hw'.out
    clear hHeld
    go_simp
  simp only [Act.put, List.setIfInBounds_toArray, List.set_cons_zero, List.set_cons_succ]
  refine wpAnyH_ready (rs := [6]) (by kernel_rfl) (by simp) (AllReadyH.cons rfl (fun K hK => ?_) AllReadyH.nil)
  go_simp
  go_wp2_with fail
  refine (HRB4.out w4.drew hHeld.out).mono ?_
  rintro e w5 ⟨v5, rfl, hr5, hb5, ho5⟩
  obtain ⟨p5, c5, rfl, hm5, hs5, hq5⟩ := hr5.sl
  have HS5 := Lib.hid hs5
  have hH5 : Hid (Below w4.heap.size w4 w5) := Lib.hid (hHeld.out.trans (hb5.mono hHeld.out.size))
  have HB5 := hH5
  go_wp2_with fail
  refine hK.out _ _ hH5 (fun hHeld2 => ?_)
  clear hH5 hr5 hb5 ho5 hm5 hs5 hq5
  clear hK K hHeld
  have hHeld := hHeld2
  clear hHeld2
  (try simp only [Act.put, List.setIfInBounds_toArray, List.set_cons_zero, List.set_cons_succ])
  refine wpAnyH_less (S2 := fun w' => Hid (Below w4.heap.size w4 w') ∧ Hid (Below w5.heap.size w5 w')) (fun _ h => h.1) _ _ _ _ ?_
  have hHeld2 : (fun w' => Hid (Below w4.heap.size w4 w') ∧ Hid (Below w5.heap.size w5 w')) w5 := ⟨hHeld, Lib.hid (Below.refl _ _)⟩
  clear hHeld
  have hHeld := hHeld2
  clear hHeld2
  refine wpAnyH_take (i := 7) (oi := ⟨some 42, _, _, _, _, _⟩) (v := .string st) rfl (by kernel_rfl) (by kernel_rfl) (by kernel_rfl) (fun _ _ _ h => h) (Or.inl ⟨by rfl, fun w' hw' => ?_⟩) (by assumption) ?_
  · have g := HST.out p5 ny c5 w' (HS5.out.later hw'.2.out)
    clear hHeld
    go_simp
  simp only [Act.put, List.setIfInBounds_toArray, List.set_cons_zero, List.set_cons_succ]
  refine wpAnyH_take (i := 8) (oi := ⟨some 43, _, _, _, _, _⟩) (v := .bool false) rfl (by kernel_rfl) (by kernel_rfl) (by kernel_rfl) (fun _ _ _ h => h) (Or.inl ⟨by rfl, fun w' hw' => ?_⟩) (by assumption) ?_
  · clear hHeld
    go_simp
  simp only [Act.put, List.setIfInBounds_toArray, List.set_cons_zero, List.set_cons_succ]
  refine wpAnyH_take (i := 9) (oi := ⟨some 44, _, _, _, _, _⟩) (v := .bool false) rfl (by kernel_rfl) (by kernel_rfl) (by kernel_rfl) (fun _ _ _ h => h) (Or.inl ⟨by rfl, fun w' hw' => ?_⟩) (by assumption) ?_
  · clear hHeld
    go_simp
  simp only [Act.put, List.setIfInBounds_toArray, List.set_cons_zero, List.set_cons_succ]
  refine wpAnyH_done (by kernel_rfl) ?_ _
  clear hHeld
  have HB6 := Lib.hid (HB4.out.trans (HB5.out.mono HB4.out.size))
  clear HST HS5 HB5 HCA HRB4 HSY4 HSY HRB hbf
  go_wp2_with fail
  refine (zdecode pb nk cb B w5 (HV1.out.later HB6.out) (HSB.out.later HB6.out) (by omega)).mono ?_
  rintro e w10 ⟨lp5, lc5, tp5, tc5, wp5, wc5, rfl, hP10, hb10⟩
  have hds := dec_small B
  have hrd : ∀ w, Words w → Sl w pb nk cb B → Calls Tryd.prog 22 #[.slice pb nk cb] w (GivesD w (decP B)) := fun w h1 h2 => by rw [← dec_both]; exact rdecode pb nk cb B w h1 h2 HCM.out
  generalize decP B = r at *
  obtain ⟨er, k2, od2, po2, L2, T2, M2, sk2, fr2, to2, q2⟩ := r
  dsimp only at hP10 hds ⊢
  obtain ⟨ln5, hl5⟩ : ∃ n, L2.length = n := ⟨_, rfl⟩
  obtain ⟨tn5, ht5⟩ : ∃ n, T2.length = n := ⟨_, rfl⟩
  obtain ⟨wn5, hw5⟩ : ∃ n, M2.length = n := ⟨_, rfl⟩
  rw [hl5, ht5, hw5] at hP10 hds ⊢
  have HL5 : Hid (L2.length = ln5 ∧ T2.length = tn5 ∧ M2.length = wn5) := Lib.hid ⟨hl5, ht5, hw5⟩
  have HDS : Hid (ln5 ≤ 1000 ∧ tn5 ≤ 1000 ∧ wn5 ≤ 1000) := Lib.hid ⟨by omega, by omega, by omega⟩
  have HB10 := Lib.hid (HB6.out.trans (hb10.mono HB6.out.size))
  have HP10 := Lib.hid hP10
  have HRD := Lib.hid hrd
  clear hb10 hP10 hl5 ht5 hw5 hds hrd
  obtain ⟨N10, hN10⟩ : ∃ n, w10.heap.size = n := ⟨_, rfl⟩
  obtain ⟨w11, hwn, hxn, hbn⟩ : ∃ w11, (w10.alloc (.cells zc 28)).setRow N10 #[.int .u8 k2, .int .u32 od2, .int .u8 po2, .slice lp5 ln5 lc5, .slice tp5 tn5 tc5, .slice wp5 wn5 wc5, .int .u8 sk2, .int .u8 fr2, .int .u8 to2, .int .i64 q2] = w11 ∧ w11.heap[N10]? = some (.cells #[.int .u8 k2, .int .u32 od2, .int .u8 po2, .slice lp5 ln5 lc5, .slice tp5 tn5 tc5, .slice wp5 wn5 wc5, .int .u8 sk2, .int .u8 fr2, .int .u8 to2, .int .i64 q2] 28 (0, 0)) ∧ Below w10.heap.size w10 w11 := ⟨_, rfl, by rw [← hN10]; exact setRow_heap _ _ _ _ _ _ (alloc_block w10 _), below_setRow ((Below.refl _ _).alloc (Nat.le_refl _) _) (by omega) _⟩
  have hx10 := alloc_block w10 (.cells zc 28)
  rw [hN10] at hx10
  have HX11 := Lib.hid hxn
  have HX10 := Lib.hid hx10
  have HBN11 := Lib.hid hbn
  have HW11 := Lib.hid hwn
  have HN10 := Lib.hid hN10
  clear hx10 hxn hbn hwn hN10
  have HB11 := Lib.hid (HB10.out.trans (HBN11.out.mono HB10.out.size))
  have HP11 := Lib.hid (HP10.out.later HBN11.out)
  go_wp2_with ((try rw [HN10.out]); (with_reducible refine wpList_store_pg k2 od2 po2 lp5 ln5 lc5 tp5 tn5 tc5 wp5 wn5 wc5 sk2 fr2 to2 q2 HX10.out ?_ ?_ ?_); rfl; rfl; rw [HW11.out])
  refine (HRD.out w11 (HV1.out.later HB11.out) (HSB.out.later HB11.out)).mono ?_
  rintro e w20 ⟨lp6, lc6, tp6, tc6, wp6, wc6, rfl, hP20, hb20⟩
  dsimp only at hP20 ⊢
  obtain ⟨e1, e2, e3⟩ := HL5.out
  rw [e1, e2, e3] at hP20 ⊢
  have HB20 := Lib.hid (HB11.out.trans (hb20.mono HB11.out.size))
  have HX20 := Lib.hid (block_later HX11.out hb20)
  have HP5 := Lib.hid (HP11.out.later hb20)
  have HP20 := Lib.hid hP20
  clear hP20 hb20 e1 e2 e3 HX11 HX10
  have HX5 := HX20
  clear HX20
  obtain ⟨N20, hN20⟩ : ∃ n, w20.heap.size = n := ⟨_, rfl⟩
  obtain ⟨w21, hwn, hxn, hbn⟩ : ∃ w21, (w20.alloc (.cells zc 28)).setRow N20 #[.int .u8 k2, .int .u32 od2, .int .u8 po2, .slice lp6 ln5 lc6, .slice tp6 tn5 tc6, .slice wp6 wn5 wc6, .int .u8 sk2, .int .u8 fr2, .int .u8 to2, .int .i64 q2] = w21 ∧ w21.heap[N20]? = some (.cells #[.int .u8 k2, .int .u32 od2, .int .u8 po2, .slice lp6 ln5 lc6, .slice tp6 tn5 tc6, .slice wp6 wn5 wc6, .int .u8 sk2, .int .u8 fr2, .int .u8 to2, .int .i64 q2] 28 (0, 0)) ∧ Below w20.heap.size w20 w21 := ⟨_, rfl, by rw [← hN20]; exact setRow_heap _ _ _ _ _ _ (alloc_block w20 _), below_setRow ((Below.refl _ _).alloc (Nat.le_refl _) _) (by omega) _⟩
  have hx20 := alloc_block w20 (.cells zc 28)
  rw [hN20] at hx20
  have HX21 := Lib.hid hxn
  have HX20 := Lib.hid hx20
  have HBN21 := Lib.hid hbn
  have HW21 := Lib.hid hwn
  have HN20 := Lib.hid hN20
  clear hx20 hxn hbn hwn hN20
  have HB21 := Lib.hid (HB20.out.trans (HBN21.out.mono HB20.out.size))
  obtain ⟨a0, a1, a2, a3, a4, a5, a6, a7, a8, a9⟩ := prog_cells k2 od2 po2 lp5 ln5 lc5 tp5 tn5 tc5 wp5 wn5 wc5 sk2 fr2 to2 q2 (block_later HX5.out HBN21.out)
  obtain ⟨b0, b1, b2, b3, b4, b5, b6, b7, b8, b9⟩ := prog_cells k2 od2 po2 lp6 ln5 lc6 tp6 tn5 tc6 wp6 wn5 wc6 sk2 fr2 to2 q2 HX21.out
  go_wp2_with ((try rw [HN20.out]); (with_reducible refine wpList_store_pg k2 od2 po2 lp6 ln5 lc6 tp6 tn5 tc6 wp6 wn5 wc6 sk2 fr2 to2 q2 HX20.out ?_ ?_ ?_); rfl; rfl; rw [HW21.out])
  refine (rsame_eq2 k2 od2 po2 lp5 ln5 lc5 tp5 tn5 tc5 wp5 wn5 wc5 sk2 fr2 to2 q2 L2 T2 M2 lp6 lc6 tp6 tc6 wp6 wc6 w21 (HP5.out.later HBN21.out) (HP20.out.later HBN21.out) HDS.out).mono ?_
  rintro e w22 ⟨rfl, hb22⟩
  have HB22 := Lib.hid (HB21.out.trans (hb22.mono HB21.out.size))
  clear hb22 a0 a1 a2 a3 a4 a5 a6 a7 a8 a9 b0 b1 b2 b3 b4 b5 b6 b7 b8 b9
  go_wp2_with fail
  refine (prog_works w22 (HV1.out.later HB22.out)).mono ?_
  rintro e w24 ⟨rfl, h24⟩
  have HB24 := Lib.hid (HB22.out.trans (h24.mono HB22.out.size))
  clear h24
  go_wp2_with fail
  go_ret
  exact ⟨rfl, HB1.out.trans (HB24.out.mono HB1.out.size)⟩
end Go.Proofs.YtdcanppiiikjgaaDoor
