/- A record written, read back, framed; bytes read and written back: the statement's walk. -/
import Derived.Test.YtdcanppiiikjgaaDoorRecBmath
import Derived.Test.YtdcanppiiikjgaaDoorGrRecd
import Derived.Test.YtdcanppiiikjgaaDoorGrRecb
import Derived.Test.YtdcanppiiikjgaaDoorGrRecf
import Derived.Test.YtdcanppiiikjgaaDoorGrRece
namespace Go.Proofs.YtdcanppiiikjgaaDoor
open Go.RowKit Go.ChangeShapes Go.WideShapes
set_option linter.unusedVariables false
set_option linter.unusedSimpArgs false
set_option maxRecDepth 10000

theorem good_lists {X : Rx} (h : goodX X = true) : X.pg.lines.length ≤ 3 ∧ X.pg.takes.length ≤ 12 ∧ X.pg.owes.length ≤ 3 := by
  have hp := goodX_prog h
  unfold progB at hp
  split at hp
  · exact good_small hp
  · have : X.pg = noP := by simpa using hp
    rw [this]
    exact ⟨Nat.zero_le _, Nat.zero_le _, Nat.zero_le _⟩
theorem few_sm {r : Rv} (h : fewX r = true) : r.ln ≤ 20 ∧ r.tn ≤ 30 ∧ r.wn ≤ 20 := by
  unfold fewX fewI at h
  split at h
  · assumption
  · exact absurd h (by decide)
theorem least_six (len B : Nat) : ∃ k : Nat, min (len : Int) (B : Int) = (k : Int) ∧ k ≤ len ∧ k ≤ B := ⟨min len B, by omega, Nat.min_le_left .., Nat.min_le_right ..⟩
theorem cost_good {X : Rx} (h : goodX X = true) (hk : X.k ≠ 1) : costI X.k = 6 + ((bytesX X).length : Int) := by
  have hko := goodX_kOk h
  unfold costI
  rw [if_pos ⟨hko, hk⟩, bytes_len hko, if_neg hk]
  rfl
set_option maxHeartbeats 16000000 in
theorem law_rback (r : Rv) (L : List Ln) (T : List Tk) (M : List Ln) (pb : Option Addr) (nb cb : Nat) (Bs : List Nat) (W : World) (hw : Wd3 W) (hP : RvM W r L T M) (hok : Rxok (r.x L T M)) (hS : Sl W pb nb cb Bs) :
    Calls Tryd.prog 3 #[.agg (rcs r), .slice pb nb cb] W fun e w' => e = .returned (.bool true) ∧ Below W.heap.size W w' := by
  obtain ⟨W1, hW1, hb1⟩ : ∃ W1, W.alloc (.cells (rcs r) 30) = W1 ∧ Below W.heap.size W W1 := ⟨_, rfl, (Below.refl _ _).alloc (Nat.le_refl _) _⟩
  obtain ⟨B, hB⟩ : ∃ B, W.heap.size = B := ⟨_, rfl⟩
  have hrb := RB.new W r
  rw [hW1, hB] at hrb
  have HX1 := Lib.hid hrb
  have HW1 := Lib.hid hW1
  have HB0 := Lib.hid hb1
  have HRE := Lib.hid hB
  have HV1 := Lib.hid (hw.later hb1)
  have HP1 := Lib.hid (hP.later hb1)
  have HOK := Lib.hid hok
  obtain ⟨nk, hk, hkl, hk4⟩ := least_six nb 600
  have HSB := Lib.hid ((hS.later hb1).take nk hkl)
  have hcapb := hS.cap
  have hfew := rec_few r W1
  clear hW1 hB hb1 hrb hw hP hok hS
  cases hf : fewX r with
  | false =>
    rw [hf] at hfew
    clear hf
    go_enter Tryd.func3, Tryd.ntmps3
    go_upto_region 1 with (fail)
    rw [HW1.out, HRE.out]
    go_wp2_with ((with_reducible refine wpList_load_rc HX1.out ?_ ?_); rfl)
    refine hfew.mono ?_
    rintro e w2 ⟨rfl, h2⟩
    have HB2 := Lib.hid h2
    clear h2 hfew
    go_wp2_with fail
    refine (rec_works w2 (HV1.out.2.later HB2.out)).mono ?_
    rintro e w3 ⟨rfl, h3⟩
    have HB3 := Lib.hid (HB2.out.trans (h3.mono HB2.out.size))
    clear h3
    go_wp2_with fail
    go_ret
    exact ⟨rfl, HB0.out.trans (HB3.out.mono HB0.out.size)⟩
  | true =>
    rw [hf] at hfew
    have hsm := few_sm hf
    have HHF := Lib.hid (show (r.ln ≤ 400 ∧ r.tn ≤ 400 ∧ r.wn ≤ 400) ∧ (r.ln ≤ 1000 ∧ r.tn ≤ 1000 ∧ r.wn ≤ 1000) from ⟨⟨by omega, by omega, by omega⟩, by omega, by omega, by omega⟩)
    clear hf hsm
    generalize Bs.take nk = Y0 at *
    have HBY : Hid (∀ y ∈ Y0, y < 256) := Lib.hid HSB.out.lt
    have HYL := Lib.hid HSB.out.len
    go_enter Tryd.func3, Tryd.ntmps3
    go_upto_region 1 with (fail)
    rw [HW1.out, HRE.out]
    go_wp2_with ((with_reducible refine wpList_load_rc HX1.out ?_ ?_); rfl)
    refine hfew.mono ?_
    rintro e w2 ⟨rfl, h2⟩
    have HB2 := Lib.hid h2
    have HX2 := Lib.hid (HX1.out.later h2)
    clear h2 hfew
    have hkt : (min (nb : Int) 600).toNat = nk := by omega
    go_wp2_with ((with_reducible refine wpList_load_rc HX2.out ?_ ?_); rfl)
    clear hkt
    refine (rec_encode r L T M w2 (HV1.out.2.1.later HB2.out) (HP1.out.later HB2.out) HOK.out HHF.out.1).mono ?_
    rintro e w3 ⟨hb3, hy⟩
    have HB3 := Lib.hid (HB2.out.trans (hb3.mono HB2.out.size))
    clear hb3 HX2
    cases hg : goodX (r.x L T M) with
    | false =>
      rw [hg, if_neg (by decide)] at hy
      subst hy
      clear hg
      go_wp2_with fail
      refine (rec_decode pb nk cb Y0 w3 (HV1.out.2.1.later HB3.out) (HSB.out.later HB3.out) hk4).mono ?_
      rintro e w20 ⟨r2, L2, T2, M2, rfl, hx2, hm2, hb20⟩
      have hed := encX_dec HBY.out
      generalize decX Y0 = res at *
      obtain ⟨er, X2⟩ := res
      dsimp only at hx2 hed ⊢
      subst hx2
      have HED := Lib.hid hed
      have HB20 := Lib.hid (HB3.out.trans (hb20.mono HB3.out.size))
      have HM20 := Lib.hid hm2
      clear hed hb20 hm2
      obtain ⟨N20, hN20⟩ : ∃ n, w20.heap.size = n := ⟨_, rfl⟩
      obtain ⟨w21, hwn, hxn, hbn⟩ : ∃ w21, (w20.alloc (.cells zr 30)).setRow N20 (rcs r2) = w21 ∧ RB w21 N20 r2 ∧ Below w20.heap.size w20 w21 := ⟨_, rfl, by rw [← hN20]; exact setRow_heap _ _ _ _ _ _ (alloc_block w20 _), below_setRow ((Below.refl _ _).alloc (Nat.le_refl _) _) (by omega) _⟩
      have hxz : RB (w20.alloc (.cells zr 30)) N20 rz := by rw [← hN20]; exact alloc_block w20 _
      have HX21 := Lib.hid hxn
      have HZ20 := Lib.hid hxz
      have HBN21 := Lib.hid hbn
      have HB21 := Lib.hid (HB20.out.trans (hbn.mono HB20.out.size))
      have HW21 := Lib.hid hwn
      have HN20 := Lib.hid hN20
      clear hwn hxn hbn hxz hN20
      have HM21 := Lib.hid (HM20.out.later HBN21.out)
      by_cases he : er = 0
      case neg =>
        have de : (er == 0) = false := by simpa using he
        clear he
        go_wp2_with ((try rw [HN20.out]); (with_reducible refine wpList_store_rc r2 HZ20.out ?_ ?_ ?_); rfl; rfl; rw [HW21.out])
        refine (rec_works w21 (HV1.out.2.later HB21.out)).mono ?_
        rintro e w22 ⟨rfl, h22⟩
        have HB22 := Lib.hid (HB21.out.trans (h22.mono HB21.out.size))
        clear h22
        go_wp2_with fail
        go_ret
        exact ⟨rfl, HB0.out.trans (HB22.out.mono HB0.out.size)⟩
      subst he
      obtain ⟨hg2, hby2, hok2⟩ := HED.out rfl
      obtain ⟨q1, q2, q3⟩ := good_lists hg2
      have hz2 : r2.ln ≤ 400 ∧ r2.tn ≤ 400 ∧ r2.wn ≤ 400 := ⟨by have h := HM21.out.l.len; have : L2.length ≤ 3 := q1; omega, by have h := HM21.out.t.len; have : T2.length ≤ 12 := q2; omega, by have h := HM21.out.o.len; have : M2.length ≤ 3 := q3; omega⟩
      have hen2 := rec_encode r2 L2 T2 M2 w21 (HV1.out.2.1.later HB21.out) HM21.out hok2 hz2
      have HGD := Lib.hid (fun w (h : Below w21.heap.size w21 w) => rec_good r2 L2 T2 M2 w (HV1.out.2.1.later (HB21.out.trans (h.mono HB21.out.size))) (HM21.out.later h) hok2 hz2)
      rw [hg2] at HGD
      have HG2 := Lib.hid hg2
      have HY2 := Lib.hid hby2
      clear hg2 hby2 hok2 q1 q2 q3 hz2 HED
      go_wp2_with (first | ((try rw [HN20.out]); (with_reducible refine wpList_store_rc r2 HZ20.out ?_ ?_ ?_); rfl; rfl; rw [HW21.out]) | ((with_reducible refine wpList_load_rc HX21.out ?_ ?_); rfl))
      refine hen2.mono ?_
      rintro e w22 ⟨hb22, hy22⟩
      rw [HG2.out, if_pos rfl, HY2.out, HYL.out] at hy22
      obtain ⟨pz2, cz2, rfl, hsz2⟩ := hy22
      have HB22 := Lib.hid (HB21.out.trans (hb22.mono HB21.out.size))
      have HX22 := Lib.hid (HX21.out.later hb22)
      have v1 := conv_sl hsz2
      have v2 := conv_sl (HSB.out.later HB22.out)
      have hgd := HGD.out w22 hb22
      generalize strOf Y0 = st0 at *
      clear hb22 hsz2 hen2
      go_wp2_with ((with_reducible refine wpList_load_rcg HX22.out ?_ ?_ ?_); rfl; rfl)
      refine hgd.mono ?_
      rintro e w23 ⟨rfl, h23⟩
      have HB23 := Lib.hid (HB22.out.trans (h23.mono HB22.out.size))
      clear h23 hgd v1 v2
      go_wp2_with fail
      refine (rec_works w23 (HV1.out.2.later HB23.out)).mono ?_
      rintro e w24 ⟨rfl, h24⟩
      have HB24 := Lib.hid (HB23.out.trans (h24.mono HB23.out.size))
      clear h24
      go_wp2_with fail
      go_ret
      exact ⟨rfl, HB0.out.trans (HB24.out.mono HB0.out.size)⟩
    | true =>
      rw [hg, if_pos rfl] at hy
      obtain ⟨py, cy, rfl, hsy⟩ := hy
      have hbl := good_len hg
      have HDE := Lib.hid (decX_enc hg HOK.out)
      have HSY := Lib.hid hsy
      have HSX : Hid (sizeX (r.x L T M) = 6 + ((bytesX (r.x L T M)).length : Int)) := Lib.hid (if_pos hg)
      have HCG := Lib.hid (fun (h : r.k ≠ 1) => cost_good hg h)
      generalize bytesX (r.x L T M) = Y at *
      generalize hny : Y.length = ny at *
      have HPG : Hid (putL Y = frm Y ∧ putE Y = 0) := Lib.hid (putE_good ((good_iff Y).2 (by omega)))
      have HFL : Hid ((frm Y).length = ny + 6) := Lib.hid (by rw [frm_len, hny]; omega)
      have HBL := Lib.hid hbl
      clear hg hsy hny hbl
      go_wp2_with fail
      refine (rec_decode py ny cy Y w3 (HV1.out.2.1.later HB3.out) HSY.out (by have := HBL.out; omega)).mono ?_
      rintro e w4 ⟨r5, L5, T5, M5, rfl, hx5, hm5, hb4⟩
      rw [HDE.out] at hx5 ⊢
      dsimp only at hx5 ⊢
      have HX5 := Lib.hid hx5
      have HB4 := Lib.hid (HB3.out.trans (hb4.mono HB3.out.size))
      have HSY4 := Lib.hid (HSY.out.later hb4)
      have HM4 := Lib.hid hm5
      have hz5 : r5.ln ≤ 1000 ∧ r5.tn ≤ 1000 ∧ r5.wn ≤ 1000 := by
        have e1 : L5 = L := congrArg (fun X : Rx => X.pg.lines) hx5
        have e2 : T5 = T := congrArg (fun X : Rx => X.pg.takes) hx5
        have e3 : M5 = M := congrArg (fun X : Rx => X.pg.owes) hx5
        have h1 := hm5.l.len
        have h2 := hm5.t.len
        have h3 := hm5.o.len
        have g1 := HP1.out.l.len
        have g2 := HP1.out.t.len
        have g3 := HP1.out.o.len
        have := HHF.out.2
        rw [e1] at h1
        rw [e2] at h2
        rw [e3] at h3
        omega
      have HZ5 := Lib.hid hz5
      clear hx5 hb4 hm5 hz5 HSY HDE
      obtain ⟨N4, hN4⟩ : ∃ n, w4.heap.size = n := ⟨_, rfl⟩
      obtain ⟨w5, hwn, hxn, hbn⟩ : ∃ w5, (w4.alloc (.cells zr 30)).setRow N4 (rcs r5) = w5 ∧ RB w5 N4 r5 ∧ Below w4.heap.size w4 w5 := ⟨_, rfl, by rw [← hN4]; exact setRow_heap _ _ _ _ _ _ (alloc_block w4 _), below_setRow ((Below.refl _ _).alloc (Nat.le_refl _) _) (by omega) _⟩
      have hxz : RB (w4.alloc (.cells zr 30)) N4 rz := by rw [← hN4]; exact alloc_block w4 _
      have HXX5 := Lib.hid hxn
      have HZ4 := Lib.hid hxz
      have HBN5 := Lib.hid hbn
      have HB5 := Lib.hid (HB4.out.trans (hbn.mono HB4.out.size))
      have HW5 := Lib.hid hwn
      have HN4 := Lib.hid hN4
      clear hwn hxn hbn hxz hN4
      have HM5 := Lib.hid (HM4.out.later HBN5.out)
      have HSY5 := Lib.hid (HSY4.out.later HBN5.out)
      go_wp2_with ((try rw [HN4.out]); (with_reducible refine wpList_store_rc r5 HZ4.out ?_ ?_ ?_); rfl; rfl; rw [HW5.out])
      refine (fput_any py ny cy Y w5 HSY5.out (by have := HBL.out; omega) (HV1.out.1.later HB5.out HV1.out.1.lt)).mono ?_
      rw [HPG.out.1, HPG.out.2]
      rintro e w6 ⟨pf, cf, rfl, _, hb6, _, _⟩
      rw [HFL.out]
      have HB6 := Lib.hid (HB5.out.trans (hb6.mono HB5.out.size))
      have HXa := Lib.hid (HXX5.out.later hb6)
      have HXb := Lib.hid (HX1.out.later HB6.out)
      have HM6 := Lib.hid (HM5.out.later hb6)
      clear hb6
      go_wp2_with (first | ((with_reducible refine wpList_load_rcg HXa.out ?_ ?_ ?_); rfl; rfl) | ((with_reducible refine wpList_load_rcg HXb.out ?_ ?_ ?_); rfl; rfl))
      refine (rec_same r5 r L5 T5 M5 L T M w6 HM6.out (HP1.out.later HB6.out) HZ5.out HHF.out.2).mono ?_
      rintro e w7 ⟨rfl, h7⟩
      rw [decide_eq_true HX5.out]
      have HB7 := Lib.hid (HB6.out.trans (h7.mono HB6.out.size))
      have HXa := Lib.hid (HXa.out.later h7)
      have HXb := Lib.hid (HXb.out.later h7)
      have HM7 := Lib.hid (HM6.out.later h7)
      clear h7
      go_wp2_with (first | ((with_reducible refine wpList_load_rcg HXa.out ?_ ?_ ?_); rfl; rfl) | ((with_reducible refine wpList_load_rcg HXb.out ?_ ?_ ?_); rfl; rfl))
      refine (rrec_same r5 r L5 T5 M5 L T M w7 HM7.out (HP1.out.later HB7.out) HZ5.out HHF.out.2).mono ?_
      rintro e w8 ⟨rfl, h8⟩
      rw [decide_eq_true HX5.out]
      have HB8 := Lib.hid (HB7.out.trans (h8.mono HB7.out.size))
      have HXb := Lib.hid (HXb.out.later h8)
      clear h8
      go_wp2_with ((with_reducible refine wpList_load_rcg HXb.out ?_ ?_ ?_); rfl; rfl)
      refine (size_x r L T M w8 (HV1.out.2.1.later HB8.out) (HP1.out.later HB8.out) HOK.out HHF.out.1).mono ?_
      rintro e w9 ⟨rfl, h9⟩
      rw [HSX.out]
      have HB9 := Lib.hid (HB8.out.trans (h9.mono HB8.out.size))
      have HXb := Lib.hid (HXb.out.later h9)
      have c0 : w9.cell? ⟨B, 0, none⟩ = some (.int .u8 r.k) := block_cell HXb.out rfl
      have hq : ((((ny + 6 : Nat) : Int)) != 6 + (ny : Int)) = false := by simp; omega
      have hq' : (((ny : Int) + 6) != 6 + (ny : Int)) = false := by simp; omega
      clear h9
      by_cases hk1 : r.k = 1
      case pos =>
        rw [hk1] at c0
        clear hk1
        go_wp2_with fail
        clear c0 hq hq'
        refine (rec_decode pb nk cb Y0 w9 (HV1.out.2.1.later HB9.out) (HSB.out.later HB9.out) hk4).mono ?_
        rintro e w20 ⟨r2, L2, T2, M2, rfl, hx2, hm2, hb20⟩
        have hed := encX_dec HBY.out
        generalize decX Y0 = res at *
        obtain ⟨er, X2⟩ := res
        dsimp only at hx2 hed ⊢
        subst hx2
        have HED := Lib.hid hed
        have HB20 := Lib.hid (HB9.out.trans (hb20.mono HB9.out.size))
        have HM20 := Lib.hid hm2
        clear hed hb20 hm2
        obtain ⟨N20, hN20⟩ : ∃ n, w20.heap.size = n := ⟨_, rfl⟩
        obtain ⟨w21, hwn, hxn, hbn⟩ : ∃ w21, (w20.alloc (.cells zr 30)).setRow N20 (rcs r2) = w21 ∧ RB w21 N20 r2 ∧ Below w20.heap.size w20 w21 := ⟨_, rfl, by rw [← hN20]; exact setRow_heap _ _ _ _ _ _ (alloc_block w20 _), below_setRow ((Below.refl _ _).alloc (Nat.le_refl _) _) (by omega) _⟩
        have hxz : RB (w20.alloc (.cells zr 30)) N20 rz := by rw [← hN20]; exact alloc_block w20 _
        have HX21 := Lib.hid hxn
        have HZ20 := Lib.hid hxz
        have HBN21 := Lib.hid hbn
        have HB21 := Lib.hid (HB20.out.trans (hbn.mono HB20.out.size))
        have HW21 := Lib.hid hwn
        have HN20 := Lib.hid hN20
        clear hwn hxn hbn hxz hN20
        have HM21 := Lib.hid (HM20.out.later HBN21.out)
        by_cases he : er = 0
        case neg =>
          have de : (er == 0) = false := by simpa using he
          clear he
          go_wp2_with ((try rw [HN20.out]); (with_reducible refine wpList_store_rc r2 HZ20.out ?_ ?_ ?_); rfl; rfl; rw [HW21.out])
          refine (rec_works w21 (HV1.out.2.later HB21.out)).mono ?_
          rintro e w22 ⟨rfl, h22⟩
          have HB22 := Lib.hid (HB21.out.trans (h22.mono HB21.out.size))
          clear h22
          go_wp2_with fail
          go_ret
          exact ⟨rfl, HB0.out.trans (HB22.out.mono HB0.out.size)⟩
        subst he
        obtain ⟨hg2, hby2, hok2⟩ := HED.out rfl
        obtain ⟨q1, q2, q3⟩ := good_lists hg2
        have hz2 : r2.ln ≤ 400 ∧ r2.tn ≤ 400 ∧ r2.wn ≤ 400 := ⟨by have h := HM21.out.l.len; have : L2.length ≤ 3 := q1; omega, by have h := HM21.out.t.len; have : T2.length ≤ 12 := q2; omega, by have h := HM21.out.o.len; have : M2.length ≤ 3 := q3; omega⟩
        have hen2 := rec_encode r2 L2 T2 M2 w21 (HV1.out.2.1.later HB21.out) HM21.out hok2 hz2
        have HGD := Lib.hid (fun w (h : Below w21.heap.size w21 w) => rec_good r2 L2 T2 M2 w (HV1.out.2.1.later (HB21.out.trans (h.mono HB21.out.size))) (HM21.out.later h) hok2 hz2)
        rw [hg2] at HGD
        have HG2 := Lib.hid hg2
        have HY2 := Lib.hid hby2
        clear hg2 hby2 hok2 q1 q2 q3 hz2 HED
        go_wp2_with (first | ((try rw [HN20.out]); (with_reducible refine wpList_store_rc r2 HZ20.out ?_ ?_ ?_); rfl; rfl; rw [HW21.out]) | ((with_reducible refine wpList_load_rc HX21.out ?_ ?_); rfl))
        refine hen2.mono ?_
        rintro e w22 ⟨hb22, hy22⟩
        rw [HG2.out, if_pos rfl, HY2.out, HYL.out] at hy22
        obtain ⟨pz2, cz2, rfl, hsz2⟩ := hy22
        have HB22 := Lib.hid (HB21.out.trans (hb22.mono HB21.out.size))
        have HX22 := Lib.hid (HX21.out.later hb22)
        have v1 := conv_sl hsz2
        have v2 := conv_sl (HSB.out.later HB22.out)
        have hgd := HGD.out w22 hb22
        generalize strOf Y0 = st0 at *
        clear hb22 hsz2 hen2
        go_wp2_with ((with_reducible refine wpList_load_rcg HX22.out ?_ ?_ ?_); rfl; rfl)
        refine hgd.mono ?_
        rintro e w23 ⟨rfl, h23⟩
        have HB23 := Lib.hid (HB22.out.trans (h23.mono HB22.out.size))
        clear h23 hgd v1 v2
        go_wp2_with fail
        refine (rec_works w23 (HV1.out.2.later HB23.out)).mono ?_
        rintro e w24 ⟨rfl, h24⟩
        have HB24 := Lib.hid (HB23.out.trans (h24.mono HB23.out.size))
        clear h24
        go_wp2_with fail
        go_ret
        exact ⟨rfl, HB0.out.trans (HB24.out.mono HB0.out.size)⟩
      have dk : (r.k != 1) = true := by simpa using hk1
      have hcc : costI r.k = 6 + (ny : Int) := HCG.out hk1
      clear hk1
      go_wp2_with fail
      refine (cost_any r.k w9).mono ?_
      rintro e w10 ⟨rfl, h10⟩
      rw [hcc]
      have HB10 := Lib.hid (HB9.out.trans (h10.mono HB9.out.size))
      clear h10 c0 hcc
      go_wp2_with fail
      clear hq hq' dk
      refine (rec_decode pb nk cb Y0 w10 (HV1.out.2.1.later HB10.out) (HSB.out.later HB10.out) hk4).mono ?_
      rintro e w20 ⟨r2, L2, T2, M2, rfl, hx2, hm2, hb20⟩
      have hed := encX_dec HBY.out
      generalize decX Y0 = res at *
      obtain ⟨er, X2⟩ := res
      dsimp only at hx2 hed ⊢
      subst hx2
      have HED := Lib.hid hed
      have HB20 := Lib.hid (HB10.out.trans (hb20.mono HB10.out.size))
      have HM20 := Lib.hid hm2
      clear hed hb20 hm2
      obtain ⟨N20, hN20⟩ : ∃ n, w20.heap.size = n := ⟨_, rfl⟩
      obtain ⟨w21, hwn, hxn, hbn⟩ : ∃ w21, (w20.alloc (.cells zr 30)).setRow N20 (rcs r2) = w21 ∧ RB w21 N20 r2 ∧ Below w20.heap.size w20 w21 := ⟨_, rfl, by rw [← hN20]; exact setRow_heap _ _ _ _ _ _ (alloc_block w20 _), below_setRow ((Below.refl _ _).alloc (Nat.le_refl _) _) (by omega) _⟩
      have hxz : RB (w20.alloc (.cells zr 30)) N20 rz := by rw [← hN20]; exact alloc_block w20 _
      have HX21 := Lib.hid hxn
      have HZ20 := Lib.hid hxz
      have HBN21 := Lib.hid hbn
      have HB21 := Lib.hid (HB20.out.trans (hbn.mono HB20.out.size))
      have HW21 := Lib.hid hwn
      have HN20 := Lib.hid hN20
      clear hwn hxn hbn hxz hN20
      have HM21 := Lib.hid (HM20.out.later HBN21.out)
      by_cases he : er = 0
      case neg =>
        have de : (er == 0) = false := by simpa using he
        clear he
        go_wp2_with ((try rw [HN20.out]); (with_reducible refine wpList_store_rc r2 HZ20.out ?_ ?_ ?_); rfl; rfl; rw [HW21.out])
        refine (rec_works w21 (HV1.out.2.later HB21.out)).mono ?_
        rintro e w22 ⟨rfl, h22⟩
        have HB22 := Lib.hid (HB21.out.trans (h22.mono HB21.out.size))
        clear h22
        go_wp2_with fail
        go_ret
        exact ⟨rfl, HB0.out.trans (HB22.out.mono HB0.out.size)⟩
      subst he
      obtain ⟨hg2, hby2, hok2⟩ := HED.out rfl
      obtain ⟨q1, q2, q3⟩ := good_lists hg2
      have hz2 : r2.ln ≤ 400 ∧ r2.tn ≤ 400 ∧ r2.wn ≤ 400 := ⟨by have h := HM21.out.l.len; have : L2.length ≤ 3 := q1; omega, by have h := HM21.out.t.len; have : T2.length ≤ 12 := q2; omega, by have h := HM21.out.o.len; have : M2.length ≤ 3 := q3; omega⟩
      have hen2 := rec_encode r2 L2 T2 M2 w21 (HV1.out.2.1.later HB21.out) HM21.out hok2 hz2
      have HGD := Lib.hid (fun w (h : Below w21.heap.size w21 w) => rec_good r2 L2 T2 M2 w (HV1.out.2.1.later (HB21.out.trans (h.mono HB21.out.size))) (HM21.out.later h) hok2 hz2)
      rw [hg2] at HGD
      have HG2 := Lib.hid hg2
      have HY2 := Lib.hid hby2
      clear hg2 hby2 hok2 q1 q2 q3 hz2 HED
      go_wp2_with (first | ((try rw [HN20.out]); (with_reducible refine wpList_store_rc r2 HZ20.out ?_ ?_ ?_); rfl; rfl; rw [HW21.out]) | ((with_reducible refine wpList_load_rc HX21.out ?_ ?_); rfl))
      refine hen2.mono ?_
      rintro e w22 ⟨hb22, hy22⟩
      rw [HG2.out, if_pos rfl, HY2.out, HYL.out] at hy22
      obtain ⟨pz2, cz2, rfl, hsz2⟩ := hy22
      have HB22 := Lib.hid (HB21.out.trans (hb22.mono HB21.out.size))
      have HX22 := Lib.hid (HX21.out.later hb22)
      have v1 := conv_sl hsz2
      have v2 := conv_sl (HSB.out.later HB22.out)
      have hgd := HGD.out w22 hb22
      generalize strOf Y0 = st0 at *
      clear hb22 hsz2 hen2
      go_wp2_with ((with_reducible refine wpList_load_rcg HX22.out ?_ ?_ ?_); rfl; rfl)
      refine hgd.mono ?_
      rintro e w23 ⟨rfl, h23⟩
      have HB23 := Lib.hid (HB22.out.trans (h23.mono HB22.out.size))
      clear h23 hgd v1 v2
      go_wp2_with fail
      refine (rec_works w23 (HV1.out.2.later HB23.out)).mono ?_
      rintro e w24 ⟨rfl, h24⟩
      have HB24 := Lib.hid (HB23.out.trans (h24.mono HB23.out.size))
      clear h24
      go_wp2_with fail
      go_ret
      exact ⟨rfl, HB0.out.trans (HB24.out.mono HB0.out.size)⟩
end Go.Proofs.YtdcanppiiikjgaaDoor
