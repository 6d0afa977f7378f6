/- A program written, read back and copied: the statement's walk. -/
import Derived.Test.YtanndpmlpoplnaaDoorGrProgh
import Derived.Test.YtanndpmlpoplnaaDoorGrProgf
import Derived.Test.YtanndpmlpoplnaaDoorPgEncode
import Derived.Test.YtanndpmlpoplnaaDoorPgAlike
import Derived.Test.YtanndpmlpoplnaaDoorPgEq
import Derived.Test.YtanndpmlpoplnaaDoorPgWorks
import Derived.Deep.AppendLies
import Derived.Laws.OwnMore
namespace Go.Proofs.YtanndpmlpoplnaaDoor
open Go.RowKit Go.ChangeShapes Go.WideShapes
set_option linter.unusedVariables false
set_option linter.unusedSimpArgs false
set_option maxRecDepth 10000

theorem bytes_few {P : Pg} (h : goodP 4 4 P = true) : (bytesP P).length ≤ 400 := by
  obtain ⟨s1, s2, s3⟩ := good_small h
  unfold bytesP lnsB tksB
  simp only [List.length_append, le_len, lnf_len, tkf_len]
  omega
theorem rsame_eq (k od po : Int) (lp : Option Addr) (ln lcp : Nat) (tp : Option Addr) (tn tcp : Nat) (wp : Option Addr) (wn wcp : Nat) (sk fr to q : Int) (lp2 : Option Addr) (lc2 : Nat) (tp2 : Option Addr) (tc2 : Nat) (wp2 : Option Addr) (wc2 : Nat) (L : List Ln) (T : List Tk) (M : List Ln) (W : World) (hP : PgM W lp ln lcp L tp tn tcp T wp wn wcp M) (hP' : PgM W lp2 ln lc2 L tp2 tn tc2 T wp2 wn wc2 M) (h1 : ln ≤ 1000 ∧ tn ≤ 1000 ∧ wn ≤ 1000) :
    Calls Tryd.prog 22 #[.agg #[.int .u8 k, .int .u32 od, .int .u8 po, .slice lp ln lcp, .slice tp tn tcp, .slice wp wn wcp, .int .u8 sk, .int .u8 fr, .int .u8 to, .int .i64 q], .agg #[.int .u8 k, .int .u32 od, .int .u8 po, .slice lp2 ln lc2, .slice tp2 tn tc2, .slice wp2 wn wc2, .int .u8 sk, .int .u8 fr, .int .u8 to, .int .i64 q]] W fun e w' => e = .returned (.bool true) ∧ Below W.heap.size W w' :=
  (rsame_p k od po lp ln lcp tp tn tcp wp wn wcp sk fr to q k od po lp2 ln lc2 tp2 tn tc2 wp2 wn wc2 sk fr to q L T M L T M W hP hP' h1 h1).mono fun e w' h => ⟨by rw [h.1, decide_eq_true rfl], h.2⟩
theorem same_eq (k od po : Int) (lp : Option Addr) (ln lcp : Nat) (tp : Option Addr) (tn tcp : Nat) (wp : Option Addr) (wn wcp : Nat) (sk fr to q : Int) (lp2 : Option Addr) (lc2 : Nat) (tp2 : Option Addr) (tc2 : Nat) (wp2 : Option Addr) (wc2 : Nat) (L : List Ln) (T : List Tk) (M : List Ln) (W : World) (hP : PgM W lp ln lcp L tp tn tcp T wp wn wcp M) (hP' : PgM W lp2 ln lc2 L tp2 tn tc2 T wp2 wn wc2 M) (h1 : ln ≤ 1000 ∧ tn ≤ 1000 ∧ wn ≤ 1000) :
    Calls Tryd.prog 23 #[.agg #[.int .u8 k, .int .u32 od, .int .u8 po, .slice lp ln lcp, .slice tp tn tcp, .slice wp wn wcp, .int .u8 sk, .int .u8 fr, .int .u8 to, .int .i64 q], .agg #[.int .u8 k, .int .u32 od, .int .u8 po, .slice lp2 ln lc2, .slice tp2 tn tc2, .slice wp2 wn wc2, .int .u8 sk, .int .u8 fr, .int .u8 to, .int .i64 q]] W fun e w' => e = .returned (.bool true) ∧ Below W.heap.size W w' :=
  (same_p k od po lp ln lcp tp tn tcp wp wn wcp sk fr to q k od po lp2 ln lc2 tp2 tn tc2 wp2 wn wc2 sk fr to q L T M L T M W hP hP' h1 h1).mono fun e w' h => ⟨by rw [h.1, decide_eq_true rfl], h.2⟩
theorem least_of (len B : Nat) : ∃ k : Nat, min (len : Int) (B : Int) = (k : Int) ∧ k ≤ len ∧ k ≤ B := ⟨min len B, by omega, Nat.min_le_left .., Nat.min_le_right ..⟩
set_option maxHeartbeats 8000000 in
theorem law_back (k od po : Int) (lp : Option Addr) (ln lcp : Nat) (tp : Option Addr) (tn tcp : Nat) (wp : Option Addr) (wn wcp : Nat) (sk fr to q : Int) (L : List Ln) (T : List Tk) (M : List Ln) (pb : Option Addr) (nb cb : Nat) (Bs : List Nat) (W : World) (hw : Words W) (hP : PgM W lp ln lcp L tp tn tcp T wp wn wcp M) (hok : Pgok ⟨k, od, po, L, T, M, sk, fr, to, q⟩) (hS : Sl W pb nb cb Bs) :
    Calls Tryd.prog 6 #[.agg #[.int .u8 k, .int .u32 od, .int .u8 po, .slice lp ln lcp, .slice tp tn tcp, .slice wp wn wcp, .int .u8 sk, .int .u8 fr, .int .u8 to, .int .i64 q], .slice pb nb cb] W fun e w' => e = .returned (.bool true) ∧ Below W.heap.size W w' := by
  obtain ⟨W1, hW1, hbx, hb1⟩ : ∃ W1, W.alloc (.cells #[.int .u8 k, .int .u32 od, .int .u8 po, .slice lp ln lcp, .slice tp tn tcp, .slice wp wn wcp, .int .u8 sk, .int .u8 fr, .int .u8 to, .int .i64 q] 26) = W1 ∧ W1.heap[W.heap.size]? = some (.cells #[.int .u8 k, .int .u32 od, .int .u8 po, .slice lp ln lcp, .slice tp tn tcp, .slice wp wn wcp, .int .u8 sk, .int .u8 fr, .int .u8 to, .int .i64 q] 26 (0, 0)) ∧ Below W.heap.size W W1 := ⟨_, rfl, alloc_block W _, (Below.refl _ _).alloc (Nat.le_refl _) _⟩
  have HW1 := Lib.hid hW1
  have HB1 := Lib.hid hb1
  have HX1 := Lib.hid hbx
  have HP1 := Lib.hid (hP.later hb1)
  have HV1 := Lib.hid (hw.later hb1)
  have HOK := Lib.hid hok
  have HC := Lib.hid fun w' (h : Below W1.heap.size W1 w') => prog_cells k od po lp ln lcp tp tn tcp wp wn wcp sk fr to q (block_later HX1.out h)
  obtain ⟨nk, hk, hkl, hk4⟩ := least_of nb 400
  have HSB := Lib.hid ((hS.later hb1).take nk hkl)
  have hcapb := hS.cap
  obtain ⟨a0, a1, a2, a3, a4, a5, a6, a7, a8, a9⟩ := HC.out W1 (Below.refl _ _)
  have hfew := few_p k od po lp ln lcp tp tn tcp wp wn wcp sk fr to q W1
  by_cases hf : ln ≤ 20 ∧ tn ≤ 30 ∧ wn ≤ 20
  case neg =>
    rw [show fewI ln tn wn = 0 from if_neg hf] at hfew
    clear hW1 hbx hb1 hP hok hw hf hS
    go_enter Tryd.func6, Tryd.ntmps6
    go_wp2_with fail
    rw [HW1.out]
    refine hfew.mono ?_
    rintro e w2 ⟨rfl, h2⟩
    have HB2 := Lib.hid h2
    clear hfew h2 a0 a1 a2 a3 a4 a5 a6 a7 a8 a9
    go_wp2_with fail
    refine (prog_works w2 (HV1.out.later HB2.out)).mono ?_
    rintro e w3 ⟨rfl, h3⟩
    have HB3 := Lib.hid (HB2.out.trans (h3.mono HB2.out.size))
    clear h3
    go_wp2_with fail
    go_ret
    exact ⟨rfl, HB1.out.trans (HB3.out.mono HB1.out.size)⟩
  rw [show fewI ln tn wn = 1 from if_pos hf] at hfew
  obtain ⟨hf1, hf2, hf3⟩ := hf
  generalize Bs.take nk = B at *
  have HBL := Lib.hid HSB.out.len
  have HBY : Hid (∀ y ∈ B, y < 256) := Lib.hid HSB.out.lt
  have HHF := Lib.hid (show (ln ≤ 400 ∧ tn ≤ 400 ∧ wn ≤ 400) ∧ (ln ≤ 1000 ∧ tn ≤ 1000 ∧ wn ≤ 1000) from ⟨⟨by omega, by omega, by omega⟩, by omega, by omega, by omega⟩)
  have HLN : Hid (L.length = ln ∧ T.length = tn ∧ M.length = wn) := Lib.hid ⟨hP.l.len, hP.t.len, hP.o.len⟩
  clear hW1 hbx hb1 hP hok hw hS
  go_enter Tryd.func6, Tryd.ntmps6
  go_wp2_with fail
  rw [HW1.out]
  refine hfew.mono ?_
  rintro e w2 ⟨rfl, h2⟩
  have HB2 := Lib.hid h2
  clear hfew h2 a0 a1 a2 a3 a4 a5 a6 a7 a8 a9
  obtain ⟨a0, a1, a2, a3, a4, a5, a6, a7, a8, a9⟩ := HC.out w2 HB2.out
  have hkt : (min (nb : Int) 400).toNat = nk := by omega
  go_wp2_with fail
  clear hkt
  refine (encode_p k od po lp ln lcp tp tn tcp wp wn wcp sk fr to q L T M w2 (HV1.out.later HB2.out) (HP1.out.later HB2.out) HOK.out HHF.out.1).mono ?_
  rintro e w3 ⟨hb3, hy⟩
  have HB3 := Lib.hid (HB2.out.trans (hb3.mono HB2.out.size))
  clear hb3 a0 a1 a2 a3 a4 a5 a6 a7 a8 a9
  cases hg : goodP 4 4 ⟨k, od, po, L, T, M, sk, fr, to, q⟩
  case false =>
    rw [hg, if_neg (by decide)] at hy
    subst hy
    clear hg
    go_wp2_with fail
    have hed := enc_dec HBY.out
    refine (zdecode pb nk cb B w3 (HV1.out.later HB3.out) (HSB.out.later HB3.out) hk4).mono ?_
    rintro e w10 ⟨lp5, lc5, tp5, tc5, wp5, wc5, rfl, hP10, hb10⟩
    generalize decP B = r at *
    obtain ⟨er, k2, od2, po2, L2, T2, M2, sk2, fr2, to2, q2⟩ := r
    dsimp only at hP10 hed ⊢
    have HED := Lib.hid hed
    obtain ⟨ln5, hl5⟩ : ∃ n, L2.length = n := ⟨_, rfl⟩
    obtain ⟨tn5, ht5⟩ : ∃ n, T2.length = n := ⟨_, rfl⟩
    obtain ⟨wn5, hw5⟩ : ∃ n, M2.length = n := ⟨_, rfl⟩
    rw [hl5, ht5, hw5] at hP10 ⊢
    have HL5 : Hid (L2.length = ln5 ∧ T2.length = tn5 ∧ M2.length = wn5) := Lib.hid ⟨hl5, ht5, hw5⟩
    have HB10 := Lib.hid (HB3.out.trans (hb10.mono HB3.out.size))
    have HP10 := Lib.hid hP10
    clear hb10 hP10 hed hl5 ht5 hw5
    obtain ⟨N10, hN10⟩ : ∃ n, w10.heap.size = n := ⟨_, rfl⟩
    obtain ⟨w11, hwn, hxn, hbn⟩ : ∃ w11, (w10.alloc (.cells zc 26)).setRow N10 #[.int .u8 k2, .int .u32 od2, .int .u8 po2, .slice lp5 ln5 lc5, .slice tp5 tn5 tc5, .slice wp5 wn5 wc5, .int .u8 sk2, .int .u8 fr2, .int .u8 to2, .int .i64 q2] = w11 ∧ w11.heap[N10]? = some (.cells #[.int .u8 k2, .int .u32 od2, .int .u8 po2, .slice lp5 ln5 lc5, .slice tp5 tn5 tc5, .slice wp5 wn5 wc5, .int .u8 sk2, .int .u8 fr2, .int .u8 to2, .int .i64 q2] 26 (0, 0)) ∧ Below w10.heap.size w10 w11 := ⟨_, rfl, by rw [← hN10]; exact setRow_heap _ _ _ _ _ _ (alloc_block w10 _), below_setRow ((Below.refl _ _).alloc (Nat.le_refl _) _) (by omega) _⟩
    have hx10 := alloc_block w10 (.cells zc 26)
    rw [hN10] at hx10
    have HX11 := Lib.hid hxn
    have HX10 := Lib.hid hx10
    have HB11 := Lib.hid (HB10.out.trans (hbn.mono HB10.out.size))
    have HBN11 := Lib.hid hbn
    have HW11 := Lib.hid hwn
    have HN10 := Lib.hid hN10
    clear hx10 hxn hbn hwn hN10
    have HP11 := Lib.hid (HP10.out.later HBN11.out)
    obtain ⟨a0, a1, a2, a3, a4, a5, a6, a7, a8, a9⟩ := HC.out w11 HB11.out
    by_cases he : er = 0
    case neg =>
      have de : (er == 0) = false := by simpa using he
      clear he
      go_wp2_with ((try rw [HN10.out]); (with_reducible refine wpList_store_pg k2 od2 po2 lp5 ln5 lc5 tp5 tn5 tc5 wp5 wn5 wc5 sk2 fr2 to2 q2 HX10.out ?_ ?_ ?_); rfl; rfl; rw [HW11.out])

      refine (copy_p k od po lp ln lcp tp tn tcp wp wn wcp sk fr to q L T M w11 (HP1.out.later HB11.out) HHF.out.2).mono ?_
      rintro e w20 ⟨lp6, lc6, tp6, tc6, wp6, wc6, rfl, hP20, how20, hab20, hb20⟩
      dsimp only at hP20 how20 ⊢
      obtain ⟨e1, e2, e3⟩ := HLN.out
      rw [e1, e2, e3] at hP20 ⊢
      rw [e2] at how20
      have HB20 := Lib.hid (HB11.out.trans (hb20.mono HB11.out.size))
      have HP20 := Lib.hid hP20
      have HOW20 := Lib.hid how20
      have HAB20 : Hid (∀ a, tp6 = some a → W1.heap.size ≤ a.block) := Lib.hid fun a ha => Nat.le_trans HB11.out.size (hab20 a ha)
      clear hP20 how20 hab20 hb20 a0 a1 a2 a3 a4 a5 a6 a7 a8 a9 e1 e2 e3
      obtain ⟨N20, hN20⟩ : ∃ n, w20.heap.size = n := ⟨_, rfl⟩
      obtain ⟨w21, hwn, hxn, hbn⟩ : ∃ w21, (w20.alloc (.cells zc 26)).setRow N20 #[.int .u8 k, .int .u32 od, .int .u8 po, .slice lp6 ln lc6, .slice tp6 tn tc6, .slice wp6 wn wc6, .int .u8 sk, .int .u8 fr, .int .u8 to, .int .i64 q] = w21 ∧ w21.heap[N20]? = some (.cells #[.int .u8 k, .int .u32 od, .int .u8 po, .slice lp6 ln lc6, .slice tp6 tn tc6, .slice wp6 wn wc6, .int .u8 sk, .int .u8 fr, .int .u8 to, .int .i64 q] 26 (0, 0)) ∧ Below w20.heap.size w20 w21 := ⟨_, rfl, by rw [← hN20]; exact setRow_heap _ _ _ _ _ _ (alloc_block w20 _), below_setRow ((Below.refl _ _).alloc (Nat.le_refl _) _) (by omega) _⟩
      have hx20 := alloc_block w20 (.cells zc 26)
      rw [hN20] at hx20
      have HX21 := Lib.hid hxn
      have HX20 := Lib.hid hx20
      have HB21 := Lib.hid (HB20.out.trans (hbn.mono HB20.out.size))
      have HBN21 := Lib.hid hbn
      have HW21 := Lib.hid hwn
      have HN20 := Lib.hid hN20
      clear hx20 hxn hbn hwn hN20
      have HP21 := Lib.hid (HP20.out.later HBN21.out)
      have HOW21 := Lib.hid (row_keep HOW20.out (Chg.of_below (S := fun _ => False) HBN21.out) fun _ _ h => h)
      obtain ⟨a0, a1, a2, a3, a4, a5, a6, a7, a8, a9⟩ := HC.out w21 HB21.out
      obtain ⟨b0, b1, b2, b3, b4, b5, b6, b7, b8, b9⟩ := prog_cells k od po lp6 ln lc6 tp6 tn tc6 wp6 wn wc6 sk fr to q HX21.out
      by_cases ht : 0 < tn
      case neg =>
        have ht' : ¬ ((0 : Int) < tn) := by omega
        go_wp2_with ((try rw [HN20.out]); (with_reducible refine wpList_store_pg k od po lp6 ln lc6 tp6 tn tc6 wp6 wn wc6 sk fr to q HX20.out ?_ ?_ ?_); rfl; rfl; rw [HW21.out])
        refine (rsame_eq k od po lp6 ln lc6 tp6 tn tc6 wp6 wn wc6 sk fr to q lp lcp tp tcp wp wcp L T M w21 HP21.out (HP1.out.later HB21.out) HHF.out.2).mono ?_
        rintro e w22 ⟨rfl, hb22⟩
        have HB22 := Lib.hid (HB21.out.trans (hb22.mono HB21.out.size))
        have HX22 := Lib.hid (block_later HX21.out hb22)
        clear hb22 a0 a1 a2 a3 a4 a5 a6 a7 a8 a9 b0 b1 b2 b3 b4 b5 b6 b7 b8 b9
        obtain ⟨a0, a1, a2, a3, a4, a5, a6, a7, a8, a9⟩ := HC.out w22 HB22.out
        obtain ⟨b0, b1, b2, b3, b4, b5, b6, b7, b8, b9⟩ := prog_cells k od po lp6 ln lc6 tp6 tn tc6 wp6 wn wc6 sk fr to q HX22.out
        go_wp2_with fail
        refine (same_eq k od po lp ln lcp tp tn tcp wp wn wcp sk fr to q lp lcp tp tcp wp wcp L T M w22 (HP1.out.later HB22.out) (HP1.out.later HB22.out) HHF.out.2).mono ?_
        rintro e w23 ⟨rfl, hb23⟩
        have HB23 := Lib.hid (HB22.out.trans (hb23.mono HB22.out.size))
        have HX23 := Lib.hid (block_later HX22.out hb23)
        clear hb23 a0 a1 a2 a3 a4 a5 a6 a7 a8 a9 b0 b1 b2 b3 b4 b5 b6 b7 b8 b9
        obtain ⟨a0, a1, a2, a3, a4, a5, a6, a7, a8, a9⟩ := HC.out w23 HB23.out
        obtain ⟨b0, b1, b2, b3, b4, b5, b6, b7, b8, b9⟩ := prog_cells k od po lp6 ln lc6 tp6 tn tc6 wp6 wn wc6 sk fr to q HX23.out
        go_wp2_with fail
        refine (prog_works w23 (HV1.out.later HB23.out)).mono ?_
        rintro e w24 ⟨rfl, h24⟩
        have HB24 := Lib.hid (HB23.out.trans (h24.mono HB23.out.size))
        clear h24 a0 a1 a2 a3 a4 a5 a6 a7 a8 a9 b0 b1 b2 b3 b4 b5 b6 b7 b8 b9
        go_wp2_with fail
        go_ret
        exact ⟨rfl, HB1.out.trans (HB24.out.mono HB1.out.size)⟩
      have ht' : (0 : Int) < tn := by omega
      obtain ⟨g, cg, hu, hg0, hg1⟩ := HOW21.out.form ht
      cases hu
      have HGW : Hid (W1.heap.size ≤ g) := Lib.hid (HAB20.out _ rfl)
      obtain ⟨tb, to', rfl, hlt, _, _, _, k3⟩ := take_cells (HP1.out.later HB21.out).t (j := 0) ht
      generalize hz : (T.getD 0 tk0).2.2.2 = z at *
      have HZ := Lib.hid hz
      clear hz
      go_wp2_with ((try rw [HN20.out]); (with_reducible refine wpList_store_pg k od po lp6 ln lc6 (some ⟨g, 0, none⟩) tn tc6 wp6 wn wc6 sk fr to q HX20.out ?_ ?_ ?_); rfl; rfl; rw [HW21.out])
      refine (rsame_eq k od po lp6 ln lc6 (some ⟨g, 0, none⟩) tn tc6 wp6 wn wc6 sk fr to q lp lcp (some ⟨tb, to', none⟩) tcp wp wcp L T M w21 HP21.out (HP1.out.later HB21.out) HHF.out.2).mono ?_
      rintro e w22 ⟨rfl, hb22⟩
      have HB22 := Lib.hid (HB21.out.trans (hb22.mono HB21.out.size))
      have HX22 := Lib.hid (block_later HX21.out hb22)
      have HP22 := Lib.hid (HP21.out.later hb22)
      have HOW22 := Lib.hid (row_keep HOW21.out (Chg.of_below (S := fun _ => False) hb22) fun _ _ h => h)
      clear hb22 k3 a0 a1 a2 a3 a4 a5 a6 a7 a8 a9 b0 b1 b2 b3 b4 b5 b6 b7 b8 b9
      obtain ⟨a0, a1, a2, a3, a4, a5, a6, a7, a8, a9⟩ := HC.out w22 HB22.out
      obtain ⟨b0, b1, b2, b3, b4, b5, b6, b7, b8, b9⟩ := prog_cells k od po lp6 ln lc6 (some ⟨g, 0, none⟩) tn tc6 wp6 wn wc6 sk fr to q HX22.out
      go_wp2_with fail
      refine (same_eq k od po lp ln lcp (some ⟨tb, to', none⟩) tn tcp wp wn wcp sk fr to q lp lcp (some ⟨tb, to', none⟩) tcp wp wcp L T M w22 (HP1.out.later HB22.out) (HP1.out.later HB22.out) HHF.out.2).mono ?_
      rintro e w23 ⟨rfl, hb23⟩
      have HB23 := Lib.hid (HB22.out.trans (hb23.mono HB22.out.size))
      have HX23 := Lib.hid (block_later HX22.out hb23)
      have HP23 := Lib.hid (HP22.out.later hb23)
      have HOW23 := Lib.hid (row_keep HOW22.out (Chg.of_below (S := fun _ => False) hb23) fun _ _ h => h)
      clear hb23 a0 a1 a2 a3 a4 a5 a6 a7 a8 a9 b0 b1 b2 b3 b4 b5 b6 b7 b8 b9
      obtain ⟨a0, a1, a2, a3, a4, a5, a6, a7, a8, a9⟩ := HC.out w23 HB23.out
      obtain ⟨b0, b1, b2, b3, b4, b5, b6, b7, b8, b9⟩ := prog_cells k od po lp6 ln lc6 (some ⟨g, 0, none⟩) tn tc6 wp6 wn wc6 sk fr to q HX23.out
      obtain ⟨_, _, hre, _, _, _, _, k6⟩ := take_cells HP23.out.t (j := 0) ht
      cases hre
      rw [HZ.out] at k6
      have k6 : w23.cell? ⟨g, 3, none⟩ = some (.int .i64 z) := k6
      have hfr := HOW23.out.frozenAt 3
      go_upto_region 21 with (fail)
      have HB24 := Lib.hid (HB23.out.setCell (p := ⟨g, 3, none⟩) HGW.out (.int .i64 (wrap64 (z + 1))))
      generalize w23.setCell ⟨g, 3, none⟩ (.int .i64 (wrap64 (z + 1))) = w24 at *
      clear k6 hfr a0 a1 a2 a3 a4 a5 a6 a7 a8 a9 b0 b1 b2 b3 b4 b5 b6 b7 b8 b9
      obtain ⟨a0, a1, a2, a3, a4, a5, a6, a7, a8, a9⟩ := HC.out w24 HB24.out
      obtain ⟨_, _, hre, _, _, _, _, k3⟩ := take_cells (HP1.out.later HB24.out).t (j := 0) ht
      cases hre
      rw [HZ.out] at k3
      go_wp2_with fail
      refine (prog_works w24 (HV1.out.later HB24.out)).mono ?_
      rintro e w25 ⟨rfl, h25⟩
      have HB25 := Lib.hid (HB24.out.trans (h25.mono HB24.out.size))
      clear h25 k3 a0 a1 a2 a3 a4 a5 a6 a7 a8 a9
      go_wp2_with fail
      go_ret
      exact ⟨rfl, HB1.out.trans (HB25.out.mono HB1.out.size)⟩

    subst he
    obtain ⟨hg2, hby2, hok2⟩ := HED.out rfl
    have hsm := good_small hg2
    dsimp only at hsm
    rw [HL5.out.1, HL5.out.2.1, HL5.out.2.2] at hsm
    have HSM : Hid (ln5 ≤ 400 ∧ tn5 ≤ 400 ∧ wn5 ≤ 400) := Lib.hid ⟨by omega, by omega, by omega⟩
    have HG2 := Lib.hid hg2
    have HBY2 := Lib.hid hby2
    have HOK2 := Lib.hid hok2
    clear hg2 hby2 hok2 hsm
    obtain ⟨b0, b1, b2, b3, b4, b5, b6, b7, b8, b9⟩ := prog_cells k2 od2 po2 lp5 ln5 lc5 tp5 tn5 tc5 wp5 wn5 wc5 sk2 fr2 to2 q2 HX11.out
    go_wp2_with ((try rw [HN10.out]); (with_reducible refine wpList_store_pg k2 od2 po2 lp5 ln5 lc5 tp5 tn5 tc5 wp5 wn5 wc5 sk2 fr2 to2 q2 HX10.out ?_ ?_ ?_); rfl; rfl; rw [HW11.out])
    refine (encode_p k2 od2 po2 lp5 ln5 lc5 tp5 tn5 tc5 wp5 wn5 wc5 sk2 fr2 to2 q2 L2 T2 M2 w11 (HV1.out.later HB11.out) HP11.out HOK2.out HSM.out).mono ?_
    rintro e w12 ⟨hb12, hy2⟩
    rw [HG2.out, if_pos rfl, HBY2.out, HBL.out] at hy2
    obtain ⟨py2, cy2, rfl, hsy2, _, _⟩ := hy2
    have HB12 := Lib.hid (HB11.out.trans (hb12.mono HB11.out.size))
    have HX12 := Lib.hid (block_later HX11.out hb12)
    have HP12 := Lib.hid (HP11.out.later hb12)
    have v1 := conv_sl hsy2
    have v2 := conv_sl (HSB.out.later HB12.out)
    generalize strOf B = st at *
    clear hb12 hsy2 a0 a1 a2 a3 a4 a5 a6 a7 a8 a9 b0 b1 b2 b3 b4 b5 b6 b7 b8 b9
    obtain ⟨b0, b1, b2, b3, b4, b5, b6, b7, b8, b9⟩ := prog_cells k2 od2 po2 lp5 ln5 lc5 tp5 tn5 tc5 wp5 wn5 wc5 sk2 fr2 to2 q2 HX12.out
    go_wp2_with fail
    refine (good_p 4 4 k2 od2 po2 lp5 ln5 lc5 tp5 tn5 tc5 wp5 wn5 wc5 sk2 fr2 to2 q2 L2 T2 M2 w12 (HV1.out.later HB12.out) HP12.out HOK2.out HSM.out).mono ?_
    rintro e w13 ⟨rfl, hb13⟩
    rw [HG2.out]
    have HB13 := Lib.hid (HB12.out.trans (hb13.mono HB12.out.size))
    clear hb13 v1 v2 b0 b1 b2 b3 b4 b5 b6 b7 b8 b9
    obtain ⟨a0, a1, a2, a3, a4, a5, a6, a7, a8, a9⟩ := HC.out w13 HB13.out
    go_wp2_with fail
    refine (copy_p k od po lp ln lcp tp tn tcp wp wn wcp sk fr to q L T M w13 (HP1.out.later HB13.out) HHF.out.2).mono ?_
    rintro e w20 ⟨lp6, lc6, tp6, tc6, wp6, wc6, rfl, hP20, how20, hab20, hb20⟩
    dsimp only at hP20 how20 ⊢
    obtain ⟨e1, e2, e3⟩ := HLN.out
    rw [e1, e2, e3] at hP20 ⊢
    rw [e2] at how20
    have HB20 := Lib.hid (HB13.out.trans (hb20.mono HB13.out.size))
    have HP20 := Lib.hid hP20
    have HOW20 := Lib.hid how20
    have HAB20 : Hid (∀ a, tp6 = some a → W1.heap.size ≤ a.block) := Lib.hid fun a ha => Nat.le_trans HB13.out.size (hab20 a ha)
    clear hP20 how20 hab20 hb20 a0 a1 a2 a3 a4 a5 a6 a7 a8 a9 e1 e2 e3
    obtain ⟨N20, hN20⟩ : ∃ n, w20.heap.size = n := ⟨_, rfl⟩
    obtain ⟨w21, hwn, hxn, hbn⟩ : ∃ w21, (w20.alloc (.cells zc 26)).setRow N20 #[.int .u8 k, .int .u32 od, .int .u8 po, .slice lp6 ln lc6, .slice tp6 tn tc6, .slice wp6 wn wc6, .int .u8 sk, .int .u8 fr, .int .u8 to, .int .i64 q] = w21 ∧ w21.heap[N20]? = some (.cells #[.int .u8 k, .int .u32 od, .int .u8 po, .slice lp6 ln lc6, .slice tp6 tn tc6, .slice wp6 wn wc6, .int .u8 sk, .int .u8 fr, .int .u8 to, .int .i64 q] 26 (0, 0)) ∧ Below w20.heap.size w20 w21 := ⟨_, rfl, by rw [← hN20]; exact setRow_heap _ _ _ _ _ _ (alloc_block w20 _), below_setRow ((Below.refl _ _).alloc (Nat.le_refl _) _) (by omega) _⟩
    have hx20 := alloc_block w20 (.cells zc 26)
    rw [hN20] at hx20
    have HX21 := Lib.hid hxn
    have HX20 := Lib.hid hx20
    have HB21 := Lib.hid (HB20.out.trans (hbn.mono HB20.out.size))
    have HBN21 := Lib.hid hbn
    have HW21 := Lib.hid hwn
    have HN20 := Lib.hid hN20
    clear hx20 hxn hbn hwn hN20
    have HP21 := Lib.hid (HP20.out.later HBN21.out)
    have HOW21 := Lib.hid (row_keep HOW20.out (Chg.of_below (S := fun _ => False) HBN21.out) fun _ _ h => h)
    obtain ⟨a0, a1, a2, a3, a4, a5, a6, a7, a8, a9⟩ := HC.out w21 HB21.out
    obtain ⟨b0, b1, b2, b3, b4, b5, b6, b7, b8, b9⟩ := prog_cells k od po lp6 ln lc6 tp6 tn tc6 wp6 wn wc6 sk fr to q HX21.out
    by_cases ht : 0 < tn
    case neg =>
      have ht' : ¬ ((0 : Int) < tn) := by omega
      go_wp2_with ((try rw [HN20.out]); (with_reducible refine wpList_store_pg k od po lp6 ln lc6 tp6 tn tc6 wp6 wn wc6 sk fr to q HX20.out ?_ ?_ ?_); rfl; rfl; rw [HW21.out])
      refine (rsame_eq k od po lp6 ln lc6 tp6 tn tc6 wp6 wn wc6 sk fr to q lp lcp tp tcp wp wcp L T M w21 HP21.out (HP1.out.later HB21.out) HHF.out.2).mono ?_
      rintro e w22 ⟨rfl, hb22⟩
      have HB22 := Lib.hid (HB21.out.trans (hb22.mono HB21.out.size))
      have HX22 := Lib.hid (block_later HX21.out hb22)
      clear hb22 a0 a1 a2 a3 a4 a5 a6 a7 a8 a9 b0 b1 b2 b3 b4 b5 b6 b7 b8 b9
      obtain ⟨a0, a1, a2, a3, a4, a5, a6, a7, a8, a9⟩ := HC.out w22 HB22.out
      obtain ⟨b0, b1, b2, b3, b4, b5, b6, b7, b8, b9⟩ := prog_cells k od po lp6 ln lc6 tp6 tn tc6 wp6 wn wc6 sk fr to q HX22.out
      go_wp2_with fail
      refine (same_eq k od po lp ln lcp tp tn tcp wp wn wcp sk fr to q lp lcp tp tcp wp wcp L T M w22 (HP1.out.later HB22.out) (HP1.out.later HB22.out) HHF.out.2).mono ?_
      rintro e w23 ⟨rfl, hb23⟩
      have HB23 := Lib.hid (HB22.out.trans (hb23.mono HB22.out.size))
      have HX23 := Lib.hid (block_later HX22.out hb23)
      clear hb23 a0 a1 a2 a3 a4 a5 a6 a7 a8 a9 b0 b1 b2 b3 b4 b5 b6 b7 b8 b9
      obtain ⟨a0, a1, a2, a3, a4, a5, a6, a7, a8, a9⟩ := HC.out w23 HB23.out
      obtain ⟨b0, b1, b2, b3, b4, b5, b6, b7, b8, b9⟩ := prog_cells k od po lp6 ln lc6 tp6 tn tc6 wp6 wn wc6 sk fr to q HX23.out
      go_wp2_with fail
      refine (prog_works w23 (HV1.out.later HB23.out)).mono ?_
      rintro e w24 ⟨rfl, h24⟩
      have HB24 := Lib.hid (HB23.out.trans (h24.mono HB23.out.size))
      clear h24 a0 a1 a2 a3 a4 a5 a6 a7 a8 a9 b0 b1 b2 b3 b4 b5 b6 b7 b8 b9
      go_wp2_with fail
      go_ret
      exact ⟨rfl, HB1.out.trans (HB24.out.mono HB1.out.size)⟩
    have ht' : (0 : Int) < tn := by omega
    obtain ⟨g, cg, hu, hg0, hg1⟩ := HOW21.out.form ht
    cases hu
    have HGW : Hid (W1.heap.size ≤ g) := Lib.hid (HAB20.out _ rfl)
    obtain ⟨tb, to', rfl, hlt, _, _, _, k3⟩ := take_cells (HP1.out.later HB21.out).t (j := 0) ht
    generalize hz : (T.getD 0 tk0).2.2.2 = z at *
    have HZ := Lib.hid hz
    clear hz
    go_wp2_with ((try rw [HN20.out]); (with_reducible refine wpList_store_pg k od po lp6 ln lc6 (some ⟨g, 0, none⟩) tn tc6 wp6 wn wc6 sk fr to q HX20.out ?_ ?_ ?_); rfl; rfl; rw [HW21.out])
    refine (rsame_eq k od po lp6 ln lc6 (some ⟨g, 0, none⟩) tn tc6 wp6 wn wc6 sk fr to q lp lcp (some ⟨tb, to', none⟩) tcp wp wcp L T M w21 HP21.out (HP1.out.later HB21.out) HHF.out.2).mono ?_
    rintro e w22 ⟨rfl, hb22⟩
    have HB22 := Lib.hid (HB21.out.trans (hb22.mono HB21.out.size))
    have HX22 := Lib.hid (block_later HX21.out hb22)
    have HP22 := Lib.hid (HP21.out.later hb22)
    have HOW22 := Lib.hid (row_keep HOW21.out (Chg.of_below (S := fun _ => False) hb22) fun _ _ h => h)
    clear hb22 k3 a0 a1 a2 a3 a4 a5 a6 a7 a8 a9 b0 b1 b2 b3 b4 b5 b6 b7 b8 b9
    obtain ⟨a0, a1, a2, a3, a4, a5, a6, a7, a8, a9⟩ := HC.out w22 HB22.out
    obtain ⟨b0, b1, b2, b3, b4, b5, b6, b7, b8, b9⟩ := prog_cells k od po lp6 ln lc6 (some ⟨g, 0, none⟩) tn tc6 wp6 wn wc6 sk fr to q HX22.out
    go_wp2_with fail
    refine (same_eq k od po lp ln lcp (some ⟨tb, to', none⟩) tn tcp wp wn wcp sk fr to q lp lcp (some ⟨tb, to', none⟩) tcp wp wcp L T M w22 (HP1.out.later HB22.out) (HP1.out.later HB22.out) HHF.out.2).mono ?_
    rintro e w23 ⟨rfl, hb23⟩
    have HB23 := Lib.hid (HB22.out.trans (hb23.mono HB22.out.size))
    have HX23 := Lib.hid (block_later HX22.out hb23)
    have HP23 := Lib.hid (HP22.out.later hb23)
    have HOW23 := Lib.hid (row_keep HOW22.out (Chg.of_below (S := fun _ => False) hb23) fun _ _ h => h)
    clear hb23 a0 a1 a2 a3 a4 a5 a6 a7 a8 a9 b0 b1 b2 b3 b4 b5 b6 b7 b8 b9
    obtain ⟨a0, a1, a2, a3, a4, a5, a6, a7, a8, a9⟩ := HC.out w23 HB23.out
    obtain ⟨b0, b1, b2, b3, b4, b5, b6, b7, b8, b9⟩ := prog_cells k od po lp6 ln lc6 (some ⟨g, 0, none⟩) tn tc6 wp6 wn wc6 sk fr to q HX23.out
    obtain ⟨_, _, hre, _, _, _, _, k6⟩ := take_cells HP23.out.t (j := 0) ht
    cases hre
    rw [HZ.out] at k6
    have k6 : w23.cell? ⟨g, 3, none⟩ = some (.int .i64 z) := k6
    have hfr := HOW23.out.frozenAt 3
    go_upto_region 21 with (fail)
    have HB24 := Lib.hid (HB23.out.setCell (p := ⟨g, 3, none⟩) HGW.out (.int .i64 (wrap64 (z + 1))))
    generalize w23.setCell ⟨g, 3, none⟩ (.int .i64 (wrap64 (z + 1))) = w24 at *
    clear k6 hfr a0 a1 a2 a3 a4 a5 a6 a7 a8 a9 b0 b1 b2 b3 b4 b5 b6 b7 b8 b9
    obtain ⟨a0, a1, a2, a3, a4, a5, a6, a7, a8, a9⟩ := HC.out w24 HB24.out
    obtain ⟨_, _, hre, _, _, _, _, k3⟩ := take_cells (HP1.out.later HB24.out).t (j := 0) ht
    cases hre
    rw [HZ.out] at k3
    go_wp2_with fail
    refine (prog_works w24 (HV1.out.later HB24.out)).mono ?_
    rintro e w25 ⟨rfl, h25⟩
    have HB25 := Lib.hid (HB24.out.trans (h25.mono HB24.out.size))
    clear h25 k3 a0 a1 a2 a3 a4 a5 a6 a7 a8 a9
    go_wp2_with fail
    go_ret
    exact ⟨rfl, HB1.out.trans (HB25.out.mono HB1.out.size)⟩


  rw [hg, if_pos rfl] at hy
  obtain ⟨py, cy, rfl, hsy, hcm, _⟩ := hy
  have hbf := bytes_few hg
  have HDE := Lib.hid (dec_enc hg HOK.out)
  have HSY := Lib.hid hsy
  generalize bytesP ⟨k, od, po, L, T, M, sk, fr, to, q⟩ = Y at *
  generalize hny : Y.length = ny at *
  clear hg hcm hsy hny
  go_wp2_with fail
  refine (zdecode py ny cy Y w3 (HV1.out.later HB3.out) HSY.out hbf).mono ?_
  rintro e w4 ⟨lp4, lc4, tp4, tc4, wp4, wc4, rfl, hP4, hb4⟩
  rw [HDE.out] at hP4 ⊢
  dsimp only at hP4 ⊢
  obtain ⟨e1, e2, e3⟩ := HLN.out
  rw [e1, e2, e3] at hP4 ⊢
  have HB4 := Lib.hid (HB3.out.trans (hb4.mono HB3.out.size))
  have HP4 := Lib.hid hP4
  clear hb4 hP4 e1 e2 e3 hbf HSY HDE
  obtain ⟨N4, hN4⟩ : ∃ n, w4.heap.size = n := ⟨_, rfl⟩
  obtain ⟨w5, hw5, hx5, hb5⟩ : ∃ w5, (w4.alloc (.cells zc 26)).setRow N4 #[.int .u8 k, .int .u32 od, .int .u8 po, .slice lp4 ln lc4, .slice tp4 tn tc4, .slice wp4 wn wc4, .int .u8 sk, .int .u8 fr, .int .u8 to, .int .i64 q] = w5 ∧ w5.heap[N4]? = some (.cells #[.int .u8 k, .int .u32 od, .int .u8 po, .slice lp4 ln lc4, .slice tp4 tn tc4, .slice wp4 wn wc4, .int .u8 sk, .int .u8 fr, .int .u8 to, .int .i64 q] 26 (0, 0)) ∧ Below w4.heap.size w4 w5 := ⟨_, rfl, by rw [← hN4]; exact setRow_heap _ _ _ _ _ _ (alloc_block w4 _), below_setRow ((Below.refl _ _).alloc (Nat.le_refl _) _) (by omega) _⟩
  have hx4 := alloc_block w4 (.cells zc 26)
  rw [hN4] at hx4
  have HX5 := Lib.hid hx5
  have HX4 := Lib.hid hx4
  have HB5 := Lib.hid (HB4.out.trans (hb5.mono HB4.out.size))
  have HP5 := Lib.hid (HP4.out.later hb5)
  have HW5 := Lib.hid hw5
  have HN4 := Lib.hid hN4
  clear hx4 hx5 hb5 hw5 hN4
  obtain ⟨a0, a1, a2, a3, a4, a5, a6, a7, a8, a9⟩ := HC.out w5 HB5.out
  obtain ⟨b0, b1, b2, b3, b4, b5, b6, b7, b8, b9⟩ := prog_cells k od po lp4 ln lc4 tp4 tn tc4 wp4 wn wc4 sk fr to q HX5.out
  go_wp2_with ((try rw [HN4.out]); (with_reducible refine wpList_store_pg k od po lp4 ln lc4 tp4 tn tc4 wp4 wn wc4 sk fr to q HX4.out ?_ ?_ ?_); rfl; rfl; rw [HW5.out])
  refine (rsame_eq k od po lp ln lcp tp tn tcp wp wn wcp sk fr to q lp4 lc4 tp4 tc4 wp4 wc4 L T M w5 (HP1.out.later HB5.out) HP5.out HHF.out.2).mono ?_
  rintro e w6 ⟨rfl, hb6⟩
  have HB6 := Lib.hid (HB5.out.trans (hb6.mono HB5.out.size))
  have HX6 := Lib.hid (block_later HX5.out hb6)
  have HP6 := Lib.hid (HP5.out.later hb6)
  clear hb6 a0 a1 a2 a3 a4 a5 a6 a7 a8 a9 b0 b1 b2 b3 b4 b5 b6 b7 b8 b9
  obtain ⟨a0, a1, a2, a3, a4, a5, a6, a7, a8, a9⟩ := HC.out w6 HB6.out
  obtain ⟨b0, b1, b2, b3, b4, b5, b6, b7, b8, b9⟩ := prog_cells k od po lp4 ln lc4 tp4 tn tc4 wp4 wn wc4 sk fr to q HX6.out
  go_wp2_with fail
  refine (same_eq k od po lp ln lcp tp tn tcp wp wn wcp sk fr to q lp4 lc4 tp4 tc4 wp4 wc4 L T M w6 (HP1.out.later HB6.out) HP6.out HHF.out.2).mono ?_
  rintro e w7 ⟨rfl, hb7⟩
  have HB7 := Lib.hid (HB6.out.trans (hb7.mono HB6.out.size))
  clear hb7 a0 a1 a2 a3 a4 a5 a6 a7 a8 a9 b0 b1 b2 b3 b4 b5 b6 b7 b8 b9
  go_wp2_with fail
  have hed := enc_dec HBY.out
  refine (zdecode pb nk cb B w7 (HV1.out.later HB7.out) (HSB.out.later HB7.out) hk4).mono ?_
  rintro e w10 ⟨lp5, lc5, tp5, tc5, wp5, wc5, rfl, hP10, hb10⟩
  generalize decP B = r at *
  obtain ⟨er, k2, od2, po2, L2, T2, M2, sk2, fr2, to2, q2⟩ := r
  dsimp only at hP10 hed ⊢
  have HED := Lib.hid hed
  obtain ⟨ln5, hl5⟩ : ∃ n, L2.length = n := ⟨_, rfl⟩
  obtain ⟨tn5, ht5⟩ : ∃ n, T2.length = n := ⟨_, rfl⟩
  obtain ⟨wn5, hw5⟩ : ∃ n, M2.length = n := ⟨_, rfl⟩
  rw [hl5, ht5, hw5] at hP10 ⊢
  have HL5 : Hid (L2.length = ln5 ∧ T2.length = tn5 ∧ M2.length = wn5) := Lib.hid ⟨hl5, ht5, hw5⟩
  have HB10 := Lib.hid (HB7.out.trans (hb10.mono HB7.out.size))
  have HP10 := Lib.hid hP10
  clear hb10 hP10 hed hl5 ht5 hw5
  obtain ⟨N10, hN10⟩ : ∃ n, w10.heap.size = n := ⟨_, rfl⟩
  obtain ⟨w11, hwn, hxn, hbn⟩ : ∃ w11, (w10.alloc (.cells zc 26)).setRow N10 #[.int .u8 k2, .int .u32 od2, .int .u8 po2, .slice lp5 ln5 lc5, .slice tp5 tn5 tc5, .slice wp5 wn5 wc5, .int .u8 sk2, .int .u8 fr2, .int .u8 to2, .int .i64 q2] = w11 ∧ w11.heap[N10]? = some (.cells #[.int .u8 k2, .int .u32 od2, .int .u8 po2, .slice lp5 ln5 lc5, .slice tp5 tn5 tc5, .slice wp5 wn5 wc5, .int .u8 sk2, .int .u8 fr2, .int .u8 to2, .int .i64 q2] 26 (0, 0)) ∧ Below w10.heap.size w10 w11 := ⟨_, rfl, by rw [← hN10]; exact setRow_heap _ _ _ _ _ _ (alloc_block w10 _), below_setRow ((Below.refl _ _).alloc (Nat.le_refl _) _) (by omega) _⟩
  have hx10 := alloc_block w10 (.cells zc 26)
  rw [hN10] at hx10
  have HX11 := Lib.hid hxn
  have HX10 := Lib.hid hx10
  have HB11 := Lib.hid (HB10.out.trans (hbn.mono HB10.out.size))
  have HBN11 := Lib.hid hbn
  have HW11 := Lib.hid hwn
  have HN10 := Lib.hid hN10
  clear hx10 hxn hbn hwn hN10
  have HP11 := Lib.hid (HP10.out.later HBN11.out)
  obtain ⟨a0, a1, a2, a3, a4, a5, a6, a7, a8, a9⟩ := HC.out w11 HB11.out
  by_cases he : er = 0
  case neg =>
    have de : (er == 0) = false := by simpa using he
    clear he
    go_wp2_with ((try rw [HN10.out]); (with_reducible refine wpList_store_pg k2 od2 po2 lp5 ln5 lc5 tp5 tn5 tc5 wp5 wn5 wc5 sk2 fr2 to2 q2 HX10.out ?_ ?_ ?_); rfl; rfl; rw [HW11.out])

    refine (copy_p k od po lp ln lcp tp tn tcp wp wn wcp sk fr to q L T M w11 (HP1.out.later HB11.out) HHF.out.2).mono ?_
    rintro e w20 ⟨lp6, lc6, tp6, tc6, wp6, wc6, rfl, hP20, how20, hab20, hb20⟩
    dsimp only at hP20 how20 ⊢
    obtain ⟨e1, e2, e3⟩ := HLN.out
    rw [e1, e2, e3] at hP20 ⊢
    rw [e2] at how20
    have HB20 := Lib.hid (HB11.out.trans (hb20.mono HB11.out.size))
    have HP20 := Lib.hid hP20
    have HOW20 := Lib.hid how20
    have HAB20 : Hid (∀ a, tp6 = some a → W1.heap.size ≤ a.block) := Lib.hid fun a ha => Nat.le_trans HB11.out.size (hab20 a ha)
    clear hP20 how20 hab20 hb20 a0 a1 a2 a3 a4 a5 a6 a7 a8 a9 e1 e2 e3
    obtain ⟨N20, hN20⟩ : ∃ n, w20.heap.size = n := ⟨_, rfl⟩
    obtain ⟨w21, hwn, hxn, hbn⟩ : ∃ w21, (w20.alloc (.cells zc 26)).setRow N20 #[.int .u8 k, .int .u32 od, .int .u8 po, .slice lp6 ln lc6, .slice tp6 tn tc6, .slice wp6 wn wc6, .int .u8 sk, .int .u8 fr, .int .u8 to, .int .i64 q] = w21 ∧ w21.heap[N20]? = some (.cells #[.int .u8 k, .int .u32 od, .int .u8 po, .slice lp6 ln lc6, .slice tp6 tn tc6, .slice wp6 wn wc6, .int .u8 sk, .int .u8 fr, .int .u8 to, .int .i64 q] 26 (0, 0)) ∧ Below w20.heap.size w20 w21 := ⟨_, rfl, by rw [← hN20]; exact setRow_heap _ _ _ _ _ _ (alloc_block w20 _), below_setRow ((Below.refl _ _).alloc (Nat.le_refl _) _) (by omega) _⟩
    have hx20 := alloc_block w20 (.cells zc 26)
    rw [hN20] at hx20
    have HX21 := Lib.hid hxn
    have HX20 := Lib.hid hx20
    have HB21 := Lib.hid (HB20.out.trans (hbn.mono HB20.out.size))
    have HBN21 := Lib.hid hbn
    have HW21 := Lib.hid hwn
    have HN20 := Lib.hid hN20
    clear hx20 hxn hbn hwn hN20
    have HP21 := Lib.hid (HP20.out.later HBN21.out)
    have HOW21 := Lib.hid (row_keep HOW20.out (Chg.of_below (S := fun _ => False) HBN21.out) fun _ _ h => h)
    obtain ⟨a0, a1, a2, a3, a4, a5, a6, a7, a8, a9⟩ := HC.out w21 HB21.out
    obtain ⟨b0, b1, b2, b3, b4, b5, b6, b7, b8, b9⟩ := prog_cells k od po lp6 ln lc6 tp6 tn tc6 wp6 wn wc6 sk fr to q HX21.out
    by_cases ht : 0 < tn
    case neg =>
      have ht' : ¬ ((0 : Int) < tn) := by omega
      go_wp2_with ((try rw [HN20.out]); (with_reducible refine wpList_store_pg k od po lp6 ln lc6 tp6 tn tc6 wp6 wn wc6 sk fr to q HX20.out ?_ ?_ ?_); rfl; rfl; rw [HW21.out])
      refine (rsame_eq k od po lp6 ln lc6 tp6 tn tc6 wp6 wn wc6 sk fr to q lp lcp tp tcp wp wcp L T M w21 HP21.out (HP1.out.later HB21.out) HHF.out.2).mono ?_
      rintro e w22 ⟨rfl, hb22⟩
      have HB22 := Lib.hid (HB21.out.trans (hb22.mono HB21.out.size))
      have HX22 := Lib.hid (block_later HX21.out hb22)
      clear hb22 a0 a1 a2 a3 a4 a5 a6 a7 a8 a9 b0 b1 b2 b3 b4 b5 b6 b7 b8 b9
      obtain ⟨a0, a1, a2, a3, a4, a5, a6, a7, a8, a9⟩ := HC.out w22 HB22.out
      obtain ⟨b0, b1, b2, b3, b4, b5, b6, b7, b8, b9⟩ := prog_cells k od po lp6 ln lc6 tp6 tn tc6 wp6 wn wc6 sk fr to q HX22.out
      go_wp2_with fail
      refine (same_eq k od po lp ln lcp tp tn tcp wp wn wcp sk fr to q lp lcp tp tcp wp wcp L T M w22 (HP1.out.later HB22.out) (HP1.out.later HB22.out) HHF.out.2).mono ?_
      rintro e w23 ⟨rfl, hb23⟩
      have HB23 := Lib.hid (HB22.out.trans (hb23.mono HB22.out.size))
      have HX23 := Lib.hid (block_later HX22.out hb23)
      clear hb23 a0 a1 a2 a3 a4 a5 a6 a7 a8 a9 b0 b1 b2 b3 b4 b5 b6 b7 b8 b9
      obtain ⟨a0, a1, a2, a3, a4, a5, a6, a7, a8, a9⟩ := HC.out w23 HB23.out
      obtain ⟨b0, b1, b2, b3, b4, b5, b6, b7, b8, b9⟩ := prog_cells k od po lp6 ln lc6 tp6 tn tc6 wp6 wn wc6 sk fr to q HX23.out
      go_wp2_with fail
      refine (prog_works w23 (HV1.out.later HB23.out)).mono ?_
      rintro e w24 ⟨rfl, h24⟩
      have HB24 := Lib.hid (HB23.out.trans (h24.mono HB23.out.size))
      clear h24 a0 a1 a2 a3 a4 a5 a6 a7 a8 a9 b0 b1 b2 b3 b4 b5 b6 b7 b8 b9
      go_wp2_with fail
      go_ret
      exact ⟨rfl, HB1.out.trans (HB24.out.mono HB1.out.size)⟩
    have ht' : (0 : Int) < tn := by omega
    obtain ⟨g, cg, hu, hg0, hg1⟩ := HOW21.out.form ht
    cases hu
    have HGW : Hid (W1.heap.size ≤ g) := Lib.hid (HAB20.out _ rfl)
    obtain ⟨tb, to', rfl, hlt, _, _, _, k3⟩ := take_cells (HP1.out.later HB21.out).t (j := 0) ht
    generalize hz : (T.getD 0 tk0).2.2.2 = z at *
    have HZ := Lib.hid hz
    clear hz
    go_wp2_with ((try rw [HN20.out]); (with_reducible refine wpList_store_pg k od po lp6 ln lc6 (some ⟨g, 0, none⟩) tn tc6 wp6 wn wc6 sk fr to q HX20.out ?_ ?_ ?_); rfl; rfl; rw [HW21.out])
    refine (rsame_eq k od po lp6 ln lc6 (some ⟨g, 0, none⟩) tn tc6 wp6 wn wc6 sk fr to q lp lcp (some ⟨tb, to', none⟩) tcp wp wcp L T M w21 HP21.out (HP1.out.later HB21.out) HHF.out.2).mono ?_
    rintro e w22 ⟨rfl, hb22⟩
    have HB22 := Lib.hid (HB21.out.trans (hb22.mono HB21.out.size))
    have HX22 := Lib.hid (block_later HX21.out hb22)
    have HP22 := Lib.hid (HP21.out.later hb22)
    have HOW22 := Lib.hid (row_keep HOW21.out (Chg.of_below (S := fun _ => False) hb22) fun _ _ h => h)
    clear hb22 k3 a0 a1 a2 a3 a4 a5 a6 a7 a8 a9 b0 b1 b2 b3 b4 b5 b6 b7 b8 b9
    obtain ⟨a0, a1, a2, a3, a4, a5, a6, a7, a8, a9⟩ := HC.out w22 HB22.out
    obtain ⟨b0, b1, b2, b3, b4, b5, b6, b7, b8, b9⟩ := prog_cells k od po lp6 ln lc6 (some ⟨g, 0, none⟩) tn tc6 wp6 wn wc6 sk fr to q HX22.out
    go_wp2_with fail
    refine (same_eq k od po lp ln lcp (some ⟨tb, to', none⟩) tn tcp wp wn wcp sk fr to q lp lcp (some ⟨tb, to', none⟩) tcp wp wcp L T M w22 (HP1.out.later HB22.out) (HP1.out.later HB22.out) HHF.out.2).mono ?_
    rintro e w23 ⟨rfl, hb23⟩
    have HB23 := Lib.hid (HB22.out.trans (hb23.mono HB22.out.size))
    have HX23 := Lib.hid (block_later HX22.out hb23)
    have HP23 := Lib.hid (HP22.out.later hb23)
    have HOW23 := Lib.hid (row_keep HOW22.out (Chg.of_below (S := fun _ => False) hb23) fun _ _ h => h)
    clear hb23 a0 a1 a2 a3 a4 a5 a6 a7 a8 a9 b0 b1 b2 b3 b4 b5 b6 b7 b8 b9
    obtain ⟨a0, a1, a2, a3, a4, a5, a6, a7, a8, a9⟩ := HC.out w23 HB23.out
    obtain ⟨b0, b1, b2, b3, b4, b5, b6, b7, b8, b9⟩ := prog_cells k od po lp6 ln lc6 (some ⟨g, 0, none⟩) tn tc6 wp6 wn wc6 sk fr to q HX23.out
    obtain ⟨_, _, hre, _, _, _, _, k6⟩ := take_cells HP23.out.t (j := 0) ht
    cases hre
    rw [HZ.out] at k6
    have k6 : w23.cell? ⟨g, 3, none⟩ = some (.int .i64 z) := k6
    have hfr := HOW23.out.frozenAt 3
    go_upto_region 21 with (fail)
    have HB24 := Lib.hid (HB23.out.setCell (p := ⟨g, 3, none⟩) HGW.out (.int .i64 (wrap64 (z + 1))))
    generalize w23.setCell ⟨g, 3, none⟩ (.int .i64 (wrap64 (z + 1))) = w24 at *
    clear k6 hfr a0 a1 a2 a3 a4 a5 a6 a7 a8 a9 b0 b1 b2 b3 b4 b5 b6 b7 b8 b9
    obtain ⟨a0, a1, a2, a3, a4, a5, a6, a7, a8, a9⟩ := HC.out w24 HB24.out
    obtain ⟨_, _, hre, _, _, _, _, k3⟩ := take_cells (HP1.out.later HB24.out).t (j := 0) ht
    cases hre
    rw [HZ.out] at k3
    go_wp2_with fail
    refine (prog_works w24 (HV1.out.later HB24.out)).mono ?_
    rintro e w25 ⟨rfl, h25⟩
    have HB25 := Lib.hid (HB24.out.trans (h25.mono HB24.out.size))
    clear h25 k3 a0 a1 a2 a3 a4 a5 a6 a7 a8 a9
    go_wp2_with fail
    go_ret
    exact ⟨rfl, HB1.out.trans (HB25.out.mono HB1.out.size)⟩

  subst he
  obtain ⟨hg2, hby2, hok2⟩ := HED.out rfl
  have hsm := good_small hg2
  dsimp only at hsm
  rw [HL5.out.1, HL5.out.2.1, HL5.out.2.2] at hsm
  have HSM : Hid (ln5 ≤ 400 ∧ tn5 ≤ 400 ∧ wn5 ≤ 400) := Lib.hid ⟨by omega, by omega, by omega⟩
  have HG2 := Lib.hid hg2
  have HBY2 := Lib.hid hby2
  have HOK2 := Lib.hid hok2
  clear hg2 hby2 hok2 hsm
  obtain ⟨b0, b1, b2, b3, b4, b5, b6, b7, b8, b9⟩ := prog_cells k2 od2 po2 lp5 ln5 lc5 tp5 tn5 tc5 wp5 wn5 wc5 sk2 fr2 to2 q2 HX11.out
  go_wp2_with ((try rw [HN10.out]); (with_reducible refine wpList_store_pg k2 od2 po2 lp5 ln5 lc5 tp5 tn5 tc5 wp5 wn5 wc5 sk2 fr2 to2 q2 HX10.out ?_ ?_ ?_); rfl; rfl; rw [HW11.out])
  refine (encode_p k2 od2 po2 lp5 ln5 lc5 tp5 tn5 tc5 wp5 wn5 wc5 sk2 fr2 to2 q2 L2 T2 M2 w11 (HV1.out.later HB11.out) HP11.out HOK2.out HSM.out).mono ?_
  rintro e w12 ⟨hb12, hy2⟩
  rw [HG2.out, if_pos rfl, HBY2.out, HBL.out] at hy2
  obtain ⟨py2, cy2, rfl, hsy2, _, _⟩ := hy2
  have HB12 := Lib.hid (HB11.out.trans (hb12.mono HB11.out.size))
  have HX12 := Lib.hid (block_later HX11.out hb12)
  have HP12 := Lib.hid (HP11.out.later hb12)
  have v1 := conv_sl hsy2
  have v2 := conv_sl (HSB.out.later HB12.out)
  generalize strOf B = st at *
  clear hb12 hsy2 a0 a1 a2 a3 a4 a5 a6 a7 a8 a9 b0 b1 b2 b3 b4 b5 b6 b7 b8 b9
  obtain ⟨b0, b1, b2, b3, b4, b5, b6, b7, b8, b9⟩ := prog_cells k2 od2 po2 lp5 ln5 lc5 tp5 tn5 tc5 wp5 wn5 wc5 sk2 fr2 to2 q2 HX12.out
  go_wp2_with fail
  refine (good_p 4 4 k2 od2 po2 lp5 ln5 lc5 tp5 tn5 tc5 wp5 wn5 wc5 sk2 fr2 to2 q2 L2 T2 M2 w12 (HV1.out.later HB12.out) HP12.out HOK2.out HSM.out).mono ?_
  rintro e w13 ⟨rfl, hb13⟩
  rw [HG2.out]
  have HB13 := Lib.hid (HB12.out.trans (hb13.mono HB12.out.size))
  clear hb13 v1 v2 b0 b1 b2 b3 b4 b5 b6 b7 b8 b9
  obtain ⟨a0, a1, a2, a3, a4, a5, a6, a7, a8, a9⟩ := HC.out w13 HB13.out
  go_wp2_with fail
  refine (copy_p k od po lp ln lcp tp tn tcp wp wn wcp sk fr to q L T M w13 (HP1.out.later HB13.out) HHF.out.2).mono ?_
  rintro e w20 ⟨lp6, lc6, tp6, tc6, wp6, wc6, rfl, hP20, how20, hab20, hb20⟩
  dsimp only at hP20 how20 ⊢
  obtain ⟨e1, e2, e3⟩ := HLN.out
  rw [e1, e2, e3] at hP20 ⊢
  rw [e2] at how20
  have HB20 := Lib.hid (HB13.out.trans (hb20.mono HB13.out.size))
  have HP20 := Lib.hid hP20
  have HOW20 := Lib.hid how20
  have HAB20 : Hid (∀ a, tp6 = some a → W1.heap.size ≤ a.block) := Lib.hid fun a ha => Nat.le_trans HB13.out.size (hab20 a ha)
  clear hP20 how20 hab20 hb20 a0 a1 a2 a3 a4 a5 a6 a7 a8 a9 e1 e2 e3
  obtain ⟨N20, hN20⟩ : ∃ n, w20.heap.size = n := ⟨_, rfl⟩
  obtain ⟨w21, hwn, hxn, hbn⟩ : ∃ w21, (w20.alloc (.cells zc 26)).setRow N20 #[.int .u8 k, .int .u32 od, .int .u8 po, .slice lp6 ln lc6, .slice tp6 tn tc6, .slice wp6 wn wc6, .int .u8 sk, .int .u8 fr, .int .u8 to, .int .i64 q] = w21 ∧ w21.heap[N20]? = some (.cells #[.int .u8 k, .int .u32 od, .int .u8 po, .slice lp6 ln lc6, .slice tp6 tn tc6, .slice wp6 wn wc6, .int .u8 sk, .int .u8 fr, .int .u8 to, .int .i64 q] 26 (0, 0)) ∧ Below w20.heap.size w20 w21 := ⟨_, rfl, by rw [← hN20]; exact setRow_heap _ _ _ _ _ _ (alloc_block w20 _), below_setRow ((Below.refl _ _).alloc (Nat.le_refl _) _) (by omega) _⟩
  have hx20 := alloc_block w20 (.cells zc 26)
  rw [hN20] at hx20
  have HX21 := Lib.hid hxn
  have HX20 := Lib.hid hx20
  have HB21 := Lib.hid (HB20.out.trans (hbn.mono HB20.out.size))
  have HBN21 := Lib.hid hbn
  have HW21 := Lib.hid hwn
  have HN20 := Lib.hid hN20
  clear hx20 hxn hbn hwn hN20
  have HP21 := Lib.hid (HP20.out.later HBN21.out)
  have HOW21 := Lib.hid (row_keep HOW20.out (Chg.of_below (S := fun _ => False) HBN21.out) fun _ _ h => h)
  obtain ⟨a0, a1, a2, a3, a4, a5, a6, a7, a8, a9⟩ := HC.out w21 HB21.out
  obtain ⟨b0, b1, b2, b3, b4, b5, b6, b7, b8, b9⟩ := prog_cells k od po lp6 ln lc6 tp6 tn tc6 wp6 wn wc6 sk fr to q HX21.out
  by_cases ht : 0 < tn
  case neg =>
    have ht' : ¬ ((0 : Int) < tn) := by omega
    go_wp2_with ((try rw [HN20.out]); (with_reducible refine wpList_store_pg k od po lp6 ln lc6 tp6 tn tc6 wp6 wn wc6 sk fr to q HX20.out ?_ ?_ ?_); rfl; rfl; rw [HW21.out])
    refine (rsame_eq k od po lp6 ln lc6 tp6 tn tc6 wp6 wn wc6 sk fr to q lp lcp tp tcp wp wcp L T M w21 HP21.out (HP1.out.later HB21.out) HHF.out.2).mono ?_
    rintro e w22 ⟨rfl, hb22⟩
    have HB22 := Lib.hid (HB21.out.trans (hb22.mono HB21.out.size))
    have HX22 := Lib.hid (block_later HX21.out hb22)
    clear hb22 a0 a1 a2 a3 a4 a5 a6 a7 a8 a9 b0 b1 b2 b3 b4 b5 b6 b7 b8 b9
    obtain ⟨a0, a1, a2, a3, a4, a5, a6, a7, a8, a9⟩ := HC.out w22 HB22.out
    obtain ⟨b0, b1, b2, b3, b4, b5, b6, b7, b8, b9⟩ := prog_cells k od po lp6 ln lc6 tp6 tn tc6 wp6 wn wc6 sk fr to q HX22.out
    go_wp2_with fail
    refine (same_eq k od po lp ln lcp tp tn tcp wp wn wcp sk fr to q lp lcp tp tcp wp wcp L T M w22 (HP1.out.later HB22.out) (HP1.out.later HB22.out) HHF.out.2).mono ?_
    rintro e w23 ⟨rfl, hb23⟩
    have HB23 := Lib.hid (HB22.out.trans (hb23.mono HB22.out.size))
    have HX23 := Lib.hid (block_later HX22.out hb23)
    clear hb23 a0 a1 a2 a3 a4 a5 a6 a7 a8 a9 b0 b1 b2 b3 b4 b5 b6 b7 b8 b9
    obtain ⟨a0, a1, a2, a3, a4, a5, a6, a7, a8, a9⟩ := HC.out w23 HB23.out
    obtain ⟨b0, b1, b2, b3, b4, b5, b6, b7, b8, b9⟩ := prog_cells k od po lp6 ln lc6 tp6 tn tc6 wp6 wn wc6 sk fr to q HX23.out
    go_wp2_with fail
    refine (prog_works w23 (HV1.out.later HB23.out)).mono ?_
    rintro e w24 ⟨rfl, h24⟩
    have HB24 := Lib.hid (HB23.out.trans (h24.mono HB23.out.size))
    clear h24 a0 a1 a2 a3 a4 a5 a6 a7 a8 a9 b0 b1 b2 b3 b4 b5 b6 b7 b8 b9
    go_wp2_with fail
    go_ret
    exact ⟨rfl, HB1.out.trans (HB24.out.mono HB1.out.size)⟩
  have ht' : (0 : Int) < tn := by omega
  obtain ⟨g, cg, hu, hg0, hg1⟩ := HOW21.out.form ht
  cases hu
  have HGW : Hid (W1.heap.size ≤ g) := Lib.hid (HAB20.out _ rfl)
  obtain ⟨tb, to', rfl, hlt, _, _, _, k3⟩ := take_cells (HP1.out.later HB21.out).t (j := 0) ht
  generalize hz : (T.getD 0 tk0).2.2.2 = z at *
  have HZ := Lib.hid hz
  clear hz
  go_wp2_with ((try rw [HN20.out]); (with_reducible refine wpList_store_pg k od po lp6 ln lc6 (some ⟨g, 0, none⟩) tn tc6 wp6 wn wc6 sk fr to q HX20.out ?_ ?_ ?_); rfl; rfl; rw [HW21.out])
  refine (rsame_eq k od po lp6 ln lc6 (some ⟨g, 0, none⟩) tn tc6 wp6 wn wc6 sk fr to q lp lcp (some ⟨tb, to', none⟩) tcp wp wcp L T M w21 HP21.out (HP1.out.later HB21.out) HHF.out.2).mono ?_
  rintro e w22 ⟨rfl, hb22⟩
  have HB22 := Lib.hid (HB21.out.trans (hb22.mono HB21.out.size))
  have HX22 := Lib.hid (block_later HX21.out hb22)
  have HP22 := Lib.hid (HP21.out.later hb22)
  have HOW22 := Lib.hid (row_keep HOW21.out (Chg.of_below (S := fun _ => False) hb22) fun _ _ h => h)
  clear hb22 k3 a0 a1 a2 a3 a4 a5 a6 a7 a8 a9 b0 b1 b2 b3 b4 b5 b6 b7 b8 b9
  obtain ⟨a0, a1, a2, a3, a4, a5, a6, a7, a8, a9⟩ := HC.out w22 HB22.out
  obtain ⟨b0, b1, b2, b3, b4, b5, b6, b7, b8, b9⟩ := prog_cells k od po lp6 ln lc6 (some ⟨g, 0, none⟩) tn tc6 wp6 wn wc6 sk fr to q HX22.out
  go_wp2_with fail
  refine (same_eq k od po lp ln lcp (some ⟨tb, to', none⟩) tn tcp wp wn wcp sk fr to q lp lcp (some ⟨tb, to', none⟩) tcp wp wcp L T M w22 (HP1.out.later HB22.out) (HP1.out.later HB22.out) HHF.out.2).mono ?_
  rintro e w23 ⟨rfl, hb23⟩
  have HB23 := Lib.hid (HB22.out.trans (hb23.mono HB22.out.size))
  have HX23 := Lib.hid (block_later HX22.out hb23)
  have HP23 := Lib.hid (HP22.out.later hb23)
  have HOW23 := Lib.hid (row_keep HOW22.out (Chg.of_below (S := fun _ => False) hb23) fun _ _ h => h)
  clear hb23 a0 a1 a2 a3 a4 a5 a6 a7 a8 a9 b0 b1 b2 b3 b4 b5 b6 b7 b8 b9
  obtain ⟨a0, a1, a2, a3, a4, a5, a6, a7, a8, a9⟩ := HC.out w23 HB23.out
  obtain ⟨b0, b1, b2, b3, b4, b5, b6, b7, b8, b9⟩ := prog_cells k od po lp6 ln lc6 (some ⟨g, 0, none⟩) tn tc6 wp6 wn wc6 sk fr to q HX23.out
  obtain ⟨_, _, hre, _, _, _, _, k6⟩ := take_cells HP23.out.t (j := 0) ht
  cases hre
  rw [HZ.out] at k6
  have k6 : w23.cell? ⟨g, 3, none⟩ = some (.int .i64 z) := k6
  have hfr := HOW23.out.frozenAt 3
  go_upto_region 21 with (fail)
  have HB24 := Lib.hid (HB23.out.setCell (p := ⟨g, 3, none⟩) HGW.out (.int .i64 (wrap64 (z + 1))))
  generalize w23.setCell ⟨g, 3, none⟩ (.int .i64 (wrap64 (z + 1))) = w24 at *
  clear k6 hfr a0 a1 a2 a3 a4 a5 a6 a7 a8 a9 b0 b1 b2 b3 b4 b5 b6 b7 b8 b9
  obtain ⟨a0, a1, a2, a3, a4, a5, a6, a7, a8, a9⟩ := HC.out w24 HB24.out
  obtain ⟨_, _, hre, _, _, _, _, k3⟩ := take_cells (HP1.out.later HB24.out).t (j := 0) ht
  cases hre
  rw [HZ.out] at k3
  go_wp2_with fail
  refine (prog_works w24 (HV1.out.later HB24.out)).mono ?_
  rintro e w25 ⟨rfl, h25⟩
  have HB25 := Lib.hid (HB24.out.trans (h25.mono HB24.out.size))
  clear h25 k3 a0 a1 a2 a3 a4 a5 a6 a7 a8 a9
  go_wp2_with fail
  go_ret
  exact ⟨rfl, HB1.out.trans (HB25.out.mono HB1.out.size)⟩


end Go.Proofs.YtanndpmlpoplnaaDoor
