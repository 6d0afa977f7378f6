import Derived.Test.YtfdgnniicjdjdaaGreatDoorPr39
import Derived.Test.YtfdgnniicjdjdaaGreatDoorPr37
import Derived.Test.YtfdgnniicjdjdaaGreatDoorPr38
namespace Go.Proofs.YtfdgnniicjdjdaaGreatDoor
open Go.RowKit Go.ChangeShapes Go.WideShapes
set_option linter.unusedVariables false
set_option linter.unusedSimpArgs false
set_option maxRecDepth 10000
theorem rrec_bytes (r : Rv) (L : List Ln) (T : List Tk) (M : List Ln) (W : World) (hP : RvM W r L T M) (hok : Rxok (r.x L T M)) (h1 : r.ln ≤ 20 ∧ r.tn ≤ 30 ∧ r.wn ≤ 20) (hg : goodX (r.x L T M) = true) : Calls Tryz.prog 48 #[.agg (rcs r)] W (Copied W (bytesX (r.x L T M)).length (bytesX (r.x L T M))) := by
 have hk : kOk r.k = true := goodX_kOk hg
 rcases kOk_cases hk with h | h | h | h | h | h | h | h | h
 · exact rrec_bytes1 r L T M W hP hok h1 h (by have := goodX_prog hg; rw [show (r.x L T M).k = 1 from h] at this; exact this)
 · exact rrec_bytes2 r L T M W hP hok h1 h
 · exact rrec_bytes3 r L T M W hP hok h1 h
 · exact rrec_bytes4 r L T M W hP hok h1 h
 · exact rrec_bytes5 r L T M W hP hok h1 h
 · exact rrec_bytes6 r L T M W hP hok h1 h
 · exact rrec_bytes7 r L T M W hP hok h1 h
 · exact rrec_bytes8 r L T M W hP hok h1 h
 · exact rrec_bytes9 r L T M W hP hok h1 h
theorem isfew_p (k od po : Int) (lp : Option Addr) (ln lcp : Nat) (tp : Option Addr) (tn tcp : Nat) (wp : Option Addr) (wn wcp : Nat) (sk fr to q : Int) (W : World) : Calls Tryz.prog 80 #[.agg #[.int .u8 k, .int .u32 od, .int .u8 po, .slice lp ln lcp, .slice tp tn tcp, .slice wp wn wcp, .int .u8 sk, .int .u8 fr, .int .u8 to, .int .i64 q]] W fun e w' => e = .returned (.bool (decide (ln ≤ 20 ∧ tn ≤ 30 ∧ wn ≤ 20))) ∧ Below W.heap.size W w' := by
 have HB : Hid (Below W.heap.size W (W.alloc (.cells #[.int .u8 k, .int .u32 od, .int .u8 po, .slice lp ln lcp, .slice tp tn tcp, .slice wp wn wcp, .int .u8 sk, .int .u8 fr, .int .u8 to, .int .i64 q] 49))) := Lib.hid ((Below.refl _ _).alloc (Nat.le_refl _) _)
 obtain ⟨r, hr⟩ : ∃ r, decide (ln ≤ 20 ∧ tn ≤ 30 ∧ wn ≤ 20) = r := ⟨_, rfl⟩
 have HR := Lib.hid hr
 rw [hr]
 clear hr
 by_cases h1 : ln ≤ 20
 case neg =>
  have d1 : decide ((ln : Int) ≤ 20) = false := decide_eq_false (by omega)
  obtain rfl : r = false := by rw [← HR.out]; exact decide_eq_false (by omega)
  go_enter Tryz.func80, Tryz.ntmps80
  go_wp2_with fail
  go_ret
  exact ⟨rfl, HB.out⟩
 have d1 : decide ((ln : Int) ≤ 20) = true := decide_eq_true (by omega)
 by_cases h2 : tn ≤ 30
 case neg =>
  have d2 : decide ((tn : Int) ≤ 30) = false := decide_eq_false (by omega)
  obtain rfl : r = false := by rw [← HR.out]; exact decide_eq_false (by omega)
  go_enter Tryz.func80, Tryz.ntmps80
  go_wp2_with fail
  go_ret
  exact ⟨rfl, HB.out⟩
 have d2 : decide ((tn : Int) ≤ 30) = true := decide_eq_true (by omega)
 by_cases h3 : wn ≤ 20
 case neg =>
  have d3 : decide ((wn : Int) ≤ 20) = false := decide_eq_false (by omega)
  obtain rfl : r = false := by rw [← HR.out]; exact decide_eq_false (by omega)
  go_enter Tryz.func80, Tryz.ntmps80
  go_wp2_with fail
  go_ret
  exact ⟨rfl, HB.out⟩
 have d3 : decide ((wn : Int) ≤ 20) = true := decide_eq_true (by omega)
 obtain rfl : r = true := by rw [← HR.out]; exact decide_eq_true (by omega)
 go_enter Tryz.func80, Tryz.ntmps80
 go_wp2_with fail
 go_ret
 exact ⟨rfl, HB.out⟩
def fewI (ln tn wn : Nat) : Int := if ln ≤ 20 ∧ tn ≤ 30 ∧ wn ≤ 20 then 1 else 0
theorem few_p (k od po : Int) (lp : Option Addr) (ln lcp : Nat) (tp : Option Addr) (tn tcp : Nat) (wp : Option Addr) (wn wcp : Nat) (sk fr to q : Int) (W : World) : Calls Tryz.prog 40 #[.agg #[.int .u8 k, .int .u32 od, .int .u8 po, .slice lp ln lcp, .slice tp tn tcp, .slice wp wn wcp, .int .u8 sk, .int .u8 fr, .int .u8 to, .int .i64 q]] W fun e w' => e = .returned (.int .i64 (fewI ln tn wn)) ∧ Below W.heap.size W w' := by
 obtain ⟨W1, hW1, hb1⟩ : ∃ W1, W.alloc (.cells #[.int .u8 k, .int .u32 od, .int .u8 po, .slice lp ln lcp, .slice tp tn tcp, .slice wp wn wcp, .int .u8 sk, .int .u8 fr, .int .u8 to, .int .i64 q] 49) = W1 ∧ Below W.heap.size W W1 := ⟨_, rfl, (Below.refl _ _).alloc (Nat.le_refl _) _⟩
 have HI := Lib.hid (isfew_p k od po lp ln lcp tp tn tcp wp wn wcp sk fr to q W1)
 have HB1 := Lib.hid hb1
 have HW1 := Lib.hid hW1
 clear hW1 hb1
 by_cases h : ln ≤ 20 ∧ tn ≤ 30 ∧ wn ≤ 20
 · have hi := HI.out
   rw [decide_eq_true h] at hi
   have HF : Hid (fewI ln tn wn = 1) := Lib.hid (if_pos h)
   clear h
   go_enter Tryz.func40, Tryz.ntmps40
   go_wp2_with fail
   rw [HW1.out]
   refine hi.mono ?_
   rintro e w2 ⟨rfl, h2⟩
   have HB2 := Lib.hid (HB1.out.trans (h2.mono HB1.out.size))
   clear hi h2
   go_wp2_with fail
   go_ret
   exact ⟨by rw [HF.out]; rfl, HB2.out⟩
 · have hi := HI.out
   rw [decide_eq_false h] at hi
   have HF : Hid (fewI ln tn wn = 0) := Lib.hid (if_neg h)
   clear h
   go_enter Tryz.func40, Tryz.ntmps40
   go_wp2_with fail
   rw [HW1.out]
   refine hi.mono ?_
   rintro e w2 ⟨rfl, h2⟩
   have HB2 := Lib.hid (HB1.out.trans (h2.mono HB1.out.size))
   clear hi h2
   go_wp2_with fail
   go_ret
   exact ⟨by rw [HF.out]; rfl, HB2.out⟩
def rex : Rv := ⟨9, 258, 0, 0, false, 0, 0, 0, 0, 1, 0, 0, 0, none, 0, 0, none, 0, 0, none, 0, 0, 0, 0, 0, 0⟩
theorem rex_ok : Rxok (rex.x [] [] []) := ⟨by simp [Rv.x, rex], by simp [Rv.x, rex], by simp [Rv.x, rex], by simp [Rv.x, rex], by simp [Rv.x, rex, Kok], by simp [Rv.x, rex, In64], by simp [Rv.x, rex], noP_ok⟩
theorem rex_good : goodX (rex.x [] [] []) = true := by decide
theorem rex_bytes : bytesX (rex.x [] [] []) = [9, 2, 1, 0, 0, 1] := by decide
theorem rex_dec : decX [9, 2, 1, 0, 0, 1] = (0, rex.x [] [] []) := by decide
set_option maxHeartbeats 4000000 in
theorem rec_works (W : World) (hw : Wd2 W) : Calls Tryz.prog 45 #[] W fun e w' => e = .returned (.bool true) ∧ Below W.heap.size W w' := by
 have hen := rec_encode rex [] [] [] W hw.1 ⟨SlG.empty _, SlG.empty _, SlG.empty _⟩ rex_ok ⟨by decide, by decide, by decide⟩
 have HWD := Lib.hid hw
 clear hw
 go_enter Tryz.func45, Tryz.ntmps45
 go_wp2_with fail
 refine hen.mono ?_
 rintro e w1 ⟨hb1, hy⟩
 rw [if_pos rex_good, rex_bytes] at hy
 obtain ⟨p1, c1, rfl, hs1⟩ := hy
 rw [show ([9, 2, 1, 0, 0, 1] : List Nat).length = 6 from rfl] at hs1 ⊢
 have HB1 := Lib.hid hb1
 have HS1 := Lib.hid hs1
 clear hb1 hs1 hen
 go_wp2_with fail
 refine (rec_decode p1 6 c1 [9, 2, 1, 0, 0, 1] w1 (HWD.out.1.later HB1.out) HS1.out (by decide)).mono ?_
 rintro e w2 ⟨r, L, T, M, rfl, hx, hm, hb2, _⟩
 rw [rex_dec] at hx ⊢
 have hsg : r.sg = 258 := congrArg Rx.sg hx
 have HB2 := Lib.hid (HB1.out.trans (hb2.mono HB1.out.size))
 have HS2 := Lib.hid (HS1.out.later hb2)
 clear hx hm hb2
 obtain ⟨N2, hN2⟩ : ∃ n, w2.heap.size = n := ⟨_, rfl⟩
 obtain ⟨w3, hwn, hxn, hbn⟩ : ∃ w3, (w2.alloc (.cells zr 51)).setRow N2 (rcs r) = w3 ∧ RB w3 N2 r ∧ Below w2.heap.size w2 w3 := ⟨_, rfl, by rw [← hN2]; exact setRow_heap _ _ _ _ _ _ (alloc_block w2 _), below_setRow ((Below.refl _ _).alloc (Nat.le_refl _) _) (by omega) _⟩
 have hxz : RB (w2.alloc (.cells zr 51)) N2 rz := by rw [← hN2]; exact alloc_block w2 _
 have c1f : w3.cell? ⟨N2, 1, none⟩ = some (.int .u32 258) := by have := block_cell (j := 1) (v := .int .u32 r.sg) hxn rfl; rwa [hsg] at this
 have HXZ := Lib.hid hxz
 have HB3 := Lib.hid (HB2.out.trans (hbn.mono HB2.out.size))
 have v1 := conv_sl (HS2.out.later hbn)
 rw [show strOf [9, 2, 1, 0, 0, 1] = ⟨#[9, 2, 1, 0, 0, 1]⟩ from rfl] at v1
 have HWN := Lib.hid hwn
 have HNN := Lib.hid hN2
 clear hwn hxn hbn hxz hN2 hsg HS2
 go_wp2_with ((try rw [HNN.out]); (with_reducible refine wpList_store_rc r HXZ.out ?_ ?_ ?_); rfl; rfl; rw [HWN.out])
 refine (cost_any 3 w3).mono ?_
 rintro e w4 ⟨rfl, h4⟩
 rw [show costI 3 = 22 from rfl]
 have HB4 := Lib.hid (HB3.out.trans (h4.mono HB3.out.size))
 clear h4 v1 c1f
 go_wp2_with fail
 refine (cost_any 4 w4).mono ?_
 rintro e w5 ⟨rfl, h5⟩
 rw [show costI 4 = 11 from rfl]
 have HB5 := Lib.hid (HB4.out.trans (h5.mono HB4.out.size))
 clear h5
 go_wp2_with fail
 refine (kword_any 7 (by decide) (by decide) w5 (HWD.out.2.later HB5.out)).mono ?_
 rintro e w6 ⟨rfl, rfl⟩
 rw [show rwordB (7 : Int).toNat = ⟨#[103, 111, 110, 101]⟩ from rfl]
 go_wp2_with fail
 go_ret
 exact ⟨rfl, HB5.out⟩
def fewX (r : Rv) : Bool := fewI r.ln r.tn r.wn == 1
theorem rec_few (r : Rv) (W : World) : Calls Tryz.prog 44 #[.agg (rcs r)] W fun e w' => e = .returned (.bool (fewX r)) ∧ Below W.heap.size W w' := by
 obtain ⟨W1, hW1, hb1⟩ : ∃ W1, W.alloc (.cells (rcs r) 51) = W1 ∧ Below W.heap.size W W1 := ⟨_, rfl, (Below.refl _ _).alloc (Nat.le_refl _) _⟩
 obtain ⟨B, hB⟩ : ∃ B, W.heap.size = B := ⟨_, rfl⟩
 have hrb := RB.new W r
 rw [hW1, hB] at hrb
 have HX1 := Lib.hid hrb
 have HW1 := Lib.hid hW1
 have HB1 := Lib.hid hb1
 have HRE := Lib.hid hB
 have hf := few_p r.pk r.od r.po r.lp r.ln r.lcp r.tp r.tn r.tcp r.wp r.wn r.wcp r.sk r.fr r.to r.q W1
 have HF : Hid (fewX r = (fewI r.ln r.tn r.wn == 1)) := Lib.hid rfl
 generalize fewI r.ln r.tn r.wn = z at *
 clear hW1 hb1 hB hrb
 go_enter Tryz.func44, Tryz.ntmps44
 go_upto_region 1 with (fail)
 rw [HW1.out, HRE.out]
 go_wp2_with ((with_reducible refine wpList_load_pr HX1.out ?_ ?_); rfl)
 refine hf.mono ?_
 rintro e w2 ⟨rfl, h2⟩
 have HB2 := Lib.hid (HB1.out.trans (h2.mono HB1.out.size))
 clear h2 hf
 go_wp2_with fail
 go_ret
 exact ⟨by rw [HF.out]; rfl, HB2.out⟩
theorem rrec_decode (p : Option Addr) (n c : Nat) (Bs : List Nat) (W : World) (hw : Words W) (hS : Sl W p n c Bs) (hcm : c ≤ maxLen) : Calls Tryz.prog 50 #[.slice p n c] W (GivesXr W (decX Bs)) := by
 obtain ⟨kk, hkk⟩ : ∃ kk : Int, (((numR ((0, Bs) : St) 1).2 : Nat) : Int) = kk := ⟨_, rfl⟩
 cases hko : kOk kk with
 | true =>
  rcases kOk_cases hko with h | h | h | h | h | h | h | h | h <;> rw [h] at hkk
  · exact rrec_dec1 p n c Bs W hw hS hcm hkk
  · exact rrec_dec2 p n c Bs W hw hS hcm hkk
  · exact rrec_dec3 p n c Bs W hw hS hcm hkk
  · exact rrec_dec4 p n c Bs W hw hS hcm hkk
  · exact rrec_dec5 p n c Bs W hw hS hcm hkk
  · exact rrec_dec6 p n c Bs W hw hS hcm hkk
  · exact rrec_dec7 p n c Bs W hw hS hcm hkk
  · exact rrec_dec8 p n c Bs W hw hS hcm hkk
  · exact rrec_dec9 p n c Bs W hw hS hcm hkk
 | false => exact rrec_decx p n c Bs W hw hS hcm kk hko hkk
theorem few_sm2 {r : Rv} (h : fewX r = true) : r.ln ≤ 20 ∧ r.tn ≤ 30 ∧ r.wn ≤ 20 := by
 unfold fewX fewI at h
 split at h
 · assumption
 · exact absurd h (by decide)
theorem good_lists2 {X : Rx} (h : goodX X = true) : X.pg.lines.length ≤ 3 ∧ X.pg.takes.length ≤ 12 ∧ X.pg.owes.length ≤ 3 := by
 have hp := goodX_prog h
 unfold progB at hp
 split at hp
 · exact good_small hp
 · have : X.pg = noP := by simpa using hp
   rw [this]
   exact ⟨Nat.zero_le _, Nat.zero_le _, Nat.zero_le _⟩
theorem decX_small (Bs : List Nat) : (decX Bs).2.pg.lines.length ≤ 3 ∧ (decX Bs).2.pg.takes.length ≤ 12 ∧ (decX Bs).2.pg.owes.length ≤ 3 := by
 have hn : noX.pg.lines.length ≤ 3 ∧ noX.pg.takes.length ≤ 12 ∧ noX.pg.owes.length ≤ 3 := ⟨Nat.zero_le _, Nat.zero_le _, Nat.zero_le _⟩
 rw [decX_eq]
 split
 · exact hn
 · split
   · rename_i hg
     exact good_lists2 hg
   · exact hn
theorem least_six2 (len B : Nat) : ∃ k : Nat, min (len : Int) (B : Int) = (k : Int) ∧ k ≤ len ∧ k ≤ B := ⟨min len B, by omega, Nat.min_le_left .., Nat.min_le_right ..⟩
theorem of_lists {r : Rv} {L : List Ln} {T : List Tk} {M : List Ln} {X : Rx} {w : World} (hx : r.x L T M = X) (hm : RvM w r L T M) (hs : X.pg.lines.length ≤ 3 ∧ X.pg.takes.length ≤ 12 ∧ X.pg.owes.length ≤ 3) : r.ln ≤ 1000 ∧ r.tn ≤ 1000 ∧ r.wn ≤ 1000 := by
 subst hx
 have h1 := hm.l.len
 have h2 := hm.t.len
 have h3 := hm.o.len
 obtain ⟨q1, q2, q3⟩ := hs
 have g1 : L.length ≤ 3 := q1
 have g2 : T.length ≤ 12 := q2
 have g3 : M.length ≤ 3 := q3
 omega
set_option maxHeartbeats 16000000 in
theorem law_rbytes (r : Rv) (L : List Ln) (T : List Tk) (M : List Ln) (pb : Option Addr) (nb cb : Nat) (Bs : List Nat) (W : World) (hw : Wd2 W) (hP : RvM W r L T M) (hok : Rxok (r.x L T M)) (hS : Sl W pb nb cb Bs) (hcm : cb ≤ maxLen) :
 Calls Tryz.prog 9 #[.agg (rcs r), .slice pb nb cb] W fun e w' => e = .returned (.bool true) ∧ Below W.heap.size W w' := by
 obtain ⟨W1, hW1, hb1⟩ : ∃ W1, W.alloc (.cells (rcs r) 51) = W1 ∧ Below W.heap.size W W1 := ⟨_, rfl, (Below.refl _ _).alloc (Nat.le_refl _) _⟩
 obtain ⟨B, hB⟩ : ∃ B, W.heap.size = B := ⟨_, rfl⟩
 have hrb := RB.new W r
 rw [hW1, hB] at hrb
 have HX1 := Lib.hid hrb
 have HW1 := Lib.hid hW1
 have HB0 := Lib.hid hb1
 have HRE := Lib.hid hB
 have HV1 := Lib.hid (hw.later hb1)
 have HP1 := Lib.hid (hP.later hb1)
 have HOK := Lib.hid hok
 have HCM := Lib.hid hcm
 obtain ⟨nk, hk, hkl, hk4⟩ := least_six2 nb 600
 have HSB := Lib.hid ((hS.later hb1).take nk hkl)
 have hcapb := hS.cap
 have hfew := rec_few r W1
 clear hW1 hB hb1 hrb hw hP hok hS hcm
 cases hf : fewX r with
 | false =>
  rw [hf] at hfew
  clear hf
  go_enter Tryz.func9, Tryz.ntmps9
  go_upto_region 1 with (fail)
  rw [HW1.out, HRE.out]
  go_wp2_with ((with_reducible refine wpList_load_rc HX1.out ?_ ?_); rfl)
  refine hfew.mono ?_
  rintro e w2 ⟨rfl, h2⟩
  have HB2 := Lib.hid h2
  clear h2 hfew
  go_wp2_with fail
  refine (rec_works w2 (HV1.out.later HB2.out)).mono ?_
  rintro e w3 ⟨rfl, h3⟩
  have HB3 := Lib.hid (HB2.out.trans (h3.mono HB2.out.size))
  clear h3
  go_wp2_with fail
  go_ret
  exact ⟨rfl, HB0.out.trans (HB3.out.mono HB0.out.size)⟩
 | true =>
  rw [hf] at hfew
  have hsm := few_sm2 hf
  have HFW := Lib.hid hsm
  have HHF := Lib.hid (show (r.ln ≤ 400 ∧ r.tn ≤ 400 ∧ r.wn ≤ 400) ∧ (r.ln ≤ 1000 ∧ r.tn ≤ 1000 ∧ r.wn ≤ 1000) from ⟨⟨by omega, by omega, by omega⟩, by omega, by omega, by omega⟩)
  clear hf hsm
  generalize Bs.take nk = Y0 at *
  go_enter Tryz.func9, Tryz.ntmps9
  go_upto_region 1 with (fail)
  rw [HW1.out, HRE.out]
  go_wp2_with ((with_reducible refine wpList_load_rc HX1.out ?_ ?_); rfl)
  refine hfew.mono ?_
  rintro e w2 ⟨rfl, h2⟩
  have HB2 := Lib.hid h2
  have HX2 := Lib.hid (HX1.out.later h2)
  clear h2 hfew
  have hkt : (min (nb : Int) 600).toNat = nk := by omega
  go_wp2_with ((with_reducible refine wpList_load_rc HX2.out ?_ ?_); rfl)
  clear hkt
  refine (rec_encode r L T M w2 (HV1.out.1.later HB2.out) (HP1.out.later HB2.out) HOK.out HHF.out.1).mono ?_
  rintro e w3 ⟨hb3, hy⟩
  have HB3 := Lib.hid (HB2.out.trans (hb3.mono HB2.out.size))
  have HX3 := Lib.hid (HX2.out.later hb3)
  clear hb3 HX2
  cases hg : goodX (r.x L T M) with
  | false =>
   rw [hg, if_neg (by decide)] at hy
   subst hy
   go_wp2_with ((with_reducible refine wpList_load_rc HX3.out ?_ ?_); rfl)
   refine (rrec_good r L T M w3 (HP1.out.later HB3.out) HOK.out HHF.out.2).mono ?_
   rintro e w4 ⟨rfl, hb4⟩
   rw [hg]
   have HB4 := Lib.hid (HB3.out.trans (hb4.mono HB3.out.size))
   have HX4 := Lib.hid (HX3.out.later hb4)
   clear hg hb4
   go_wp2_with fail
   refine (rec_decode pb nk cb Y0 w4 (HV1.out.1.later HB4.out) (HSB.out.later HB4.out) hk4).mono ?_
   rintro e w10 ⟨r5, L5, T5, M5, rfl, hx5, hm5, hb10, _⟩
   have hrd : ∀ w, Words w → Sl w pb nk cb Y0 → Calls Tryz.prog 50 #[.slice pb nk cb] w (GivesXr w (decX Y0)) := fun w h1 h2 => rrec_decode pb nk cb Y0 w h1 h2 HCM.out
   have hsm := decX_small Y0
   generalize decX Y0 = res at *
   obtain ⟨er, X5⟩ := res
   dsimp only at hx5 hsm ⊢
   have HS5 := Lib.hid (of_lists hx5 hm5 hsm)
   have HXX5 := Lib.hid hx5
   have HSM := Lib.hid hsm
   have HRD := Lib.hid hrd
   have HB10 := Lib.hid (HB4.out.trans (hb10.mono HB4.out.size))
   have HM5 := Lib.hid hm5
   clear hx5 hsm hrd hb10 hm5
   obtain ⟨N10, hN10⟩ : ∃ n, w10.heap.size = n := ⟨_, rfl⟩
   obtain ⟨w11, hwn, hxn, hbn⟩ : ∃ w11, (w10.alloc (.cells zr 51)).setRow N10 (rcs r5) = w11 ∧ RB w11 N10 r5 ∧ Below w10.heap.size w10 w11 := ⟨_, rfl, by rw [← hN10]; exact setRow_heap _ _ _ _ _ _ (alloc_block w10 _), below_setRow ((Below.refl _ _).alloc (Nat.le_refl _) _) (by omega) _⟩
   have hxz : RB (w10.alloc (.cells zr 51)) N10 rz := by rw [← hN10]; exact alloc_block w10 _
   have HX11 := Lib.hid hxn
   have HZ10 := Lib.hid hxz
   have HBN11 := Lib.hid hbn
   have HB11 := Lib.hid (HB10.out.trans (hbn.mono HB10.out.size))
   have HW11 := Lib.hid hwn
   have HN10 := Lib.hid hN10
   clear hwn hxn hbn hxz hN10
   have HM11 := Lib.hid (HM5.out.later HBN11.out)
   go_wp2_with ((try rw [HN10.out]); (with_reducible refine wpList_store_rc r5 HZ10.out ?_ ?_ ?_); rfl; rfl; rw [HW11.out])
   refine (HRD.out w11 (HV1.out.1.later HB11.out) (HSB.out.later HB11.out)).mono ?_
   rintro e w20 ⟨r6, L6, T6, M6, rfl, hx6, hm6, hb20, _⟩
   dsimp only at hx6 ⊢
   have HS6 := Lib.hid (of_lists hx6 hm6 HSM.out)
   have HXX6 := Lib.hid hx6
   have HB20 := Lib.hid (HB11.out.trans (hb20.mono HB11.out.size))
   have HXa := Lib.hid (HX11.out.later hb20)
   have HMa := Lib.hid (HM11.out.later hb20)
   have HMb := Lib.hid hm6
   clear hx6 hm6 hb20
   obtain ⟨N20, hN20⟩ : ∃ n, w20.heap.size = n := ⟨_, rfl⟩
   obtain ⟨w21, hwn, hxn, hbn⟩ : ∃ w21, (w20.alloc (.cells zr 51)).setRow N20 (rcs r6) = w21 ∧ RB w21 N20 r6 ∧ Below w20.heap.size w20 w21 := ⟨_, rfl, by rw [← hN20]; exact setRow_heap _ _ _ _ _ _ (alloc_block w20 _), below_setRow ((Below.refl _ _).alloc (Nat.le_refl _) _) (by omega) _⟩
   have hxz : RB (w20.alloc (.cells zr 51)) N20 rz := by rw [← hN20]; exact alloc_block w20 _
   have HX21 := Lib.hid hxn
   have HZ20 := Lib.hid hxz
   have HBN21 := Lib.hid hbn
   have HB21 := Lib.hid (HB20.out.trans (hbn.mono HB20.out.size))
   have HW21 := Lib.hid hwn
   have HN20 := Lib.hid hN20
   clear hwn hxn hbn hxz hN20
   have HXa := Lib.hid (HXa.out.later HBN21.out)
   have HMa := Lib.hid (HMa.out.later HBN21.out)
   have HMb := Lib.hid (HMb.out.later HBN21.out)
   go_wp2_with (first | ((try rw [HN20.out]); (with_reducible refine wpList_store_rc r6 HZ20.out ?_ ?_ ?_); rfl; rfl; rw [HW21.out]) | ((with_reducible refine wpList_load_rc HXa.out ?_ ?_); rfl) | ((with_reducible refine wpList_load_rc HX21.out ?_ ?_); rfl))
   refine (rrec_same r5 r6 L5 T5 M5 L6 T6 M6 w21 HMa.out HMb.out HS5.out HS6.out).mono ?_
   rintro e w22 ⟨rfl, hb22⟩
   rw [decide_eq_true (HXX5.out.trans HXX6.out.symm)]
   have HB22 := Lib.hid (HB21.out.trans (hb22.mono HB21.out.size))
   clear hb22
   go_wp2_with fail
   refine (rec_works w22 (HV1.out.later HB22.out)).mono ?_
   rintro e w24 ⟨rfl, h24⟩
   have HB24 := Lib.hid (HB22.out.trans (h24.mono HB22.out.size))
   clear h24
   go_wp2_with fail
   go_ret
   exact ⟨rfl, HB0.out.trans (HB24.out.mono HB0.out.size)⟩
  | true =>
   rw [hg, if_pos rfl] at hy
   obtain ⟨py, cy, rfl, hsy⟩ := hy
   have hrb : ∀ w, RvM w r L T M → Calls Tryz.prog 48 #[.agg (rcs r)] w (Copied w (bytesX (r.x L T M)).length (bytesX (r.x L T M))) := fun w h => rrec_bytes r L T M w h HOK.out HFW.out hg
   have HRB := Lib.hid hrb
   have HSY := Lib.hid hsy
   generalize bytesX (r.x L T M) = Y at *
   generalize hny : Y.length = ny at *
   clear hsy hny hrb
   go_wp2_with ((with_reducible refine wpList_load_rc HX3.out ?_ ?_); rfl)
   refine (rrec_good r L T M w3 (HP1.out.later HB3.out) HOK.out HHF.out.2).mono ?_
   rintro e w4 ⟨rfl, hb4⟩
   rw [hg]
   have HB4 := Lib.hid (HB3.out.trans (hb4.mono HB3.out.size))
   have HX4 := Lib.hid (HX3.out.later hb4)
   have HSY4 := Lib.hid (HSY.out.later hb4)
   clear hg hb4
   have hbd : Below w4.heap.size w4 w4.drew := (Below.refl _ _).drew
   have HCA := Lib.hid fun w' (h : Below w4.heap.size w4 w') => HX4.out.later h
   have HRB4 := Lib.hid fun w' (h : Below w4.heap.size w4 w') => HRB.out w' (HP1.out.later (HB4.out.trans (h.mono HB4.out.size)))
   have HST : Hid (∀ p n c w, Sl w p n c Y → (convert 33 9 (.slice p n c)).run Tryz.prog w = .ok (.string (strOf Y)) w) := Lib.hid fun p n c w h => conv_sl h
   generalize strOf Y = st at *
   go_wp2_with fail
   refine wp_region_held_drew (S := fun w' => Hid (Below w4.heap.size w4 w')) (by kernel_rfl) (Lib.hid hbd) (fun hHeld => ?_)
   clear hbd
   refine wpAnyH_take (i := 0) (oi := ⟨some 35, _, _, _, _, _⟩) (v := .int .i64 0) rfl (by kernel_rfl) (by kernel_rfl) (by kernel_rfl) (fun _ _ _ h => h) (Or.inl ⟨by rfl, fun w' hw' => ?_⟩) (by assumption) ?_
   · clear hHeld
     go_simp
   simp only [Act.put, List.setIfInBounds_toArray, List.set_cons_zero, List.set_cons_succ]
   refine wpAnyH_take (i := 1) (oi := ⟨some 36, _, _, _, _, _⟩) (v := .bool false) rfl (by kernel_rfl) (by kernel_rfl) (by kernel_rfl) (fun _ _ _ h => h) (Or.inl ⟨by rfl, fun w' hw' => ?_⟩) (by assumption) ?_
   · clear hHeld
     go_simp
   simp only [Act.put, List.setIfInBounds_toArray, List.set_cons_zero, List.set_cons_succ]
   refine wpAnyH_take (i := 2) (oi := ⟨some 37, _, _, _, _, _⟩) (v := .bool false) rfl (by kernel_rfl) (by kernel_rfl) (by kernel_rfl) (fun _ _ _ h => h) (Or.inl ⟨by rfl, fun w' hw' => ?_⟩) (by assumption) ?_
   · clear hHeld
     go_simp
   simp only [Act.put, List.setIfInBounds_toArray, List.set_cons_zero, List.set_cons_succ]
   refine wpAnyH_take (i := 3) (oi := ⟨some 38, _, _, _, _, _⟩) (v := .slice py ny cy) rfl (by kernel_rfl) (by kernel_rfl) (by kernel_rfl) (fun _ _ _ h => h) (Or.inl ⟨by rfl, fun w' hw' => ?_⟩) (by assumption) ?_
   · clear hHeld
     go_simp
   simp only [Act.put, List.setIfInBounds_toArray, List.set_cons_zero, List.set_cons_succ]
   refine wpAnyH_take (i := 4) (oi := ⟨some 39, _, _, _, _, _⟩) (v := .string st) rfl (by kernel_rfl) (by kernel_rfl) (by kernel_rfl) (fun _ _ _ h => h) (Or.inl ⟨by rfl, fun w' hw' => ?_⟩) (by assumption) ?_
   · have g := HST.out py ny cy w' (HSY4.out.later hw'.out)
     clear hHeld
     go_simp
   simp only [Act.put, List.setIfInBounds_toArray, List.set_cons_zero, List.set_cons_succ]
   refine wpAnyH_take (i := 5) (oi := ⟨some 40, _, _, _, _, _⟩) (v := .agg (rcs r)) rfl (by kernel_rfl) (by kernel_rfl) (by kernel_rfl) (fun _ _ _ h => h) (Or.inl ⟨by rfl, fun w' hw' => held_load_rc rfl (HCA.out w' (Hid.out hw'))⟩) (by assumption) ?_
   simp only [Act.put, List.setIfInBounds_toArray, List.set_cons_zero, List.set_cons_succ]
   refine wpAnyH_ready (rs := [6]) (by kernel_rfl) (by simp) (AllReadyH.cons rfl (fun K hK => ?_) AllReadyH.nil)
   go_simp
   go_wp2_with fail
   refine (HRB4.out w4.drew hHeld.out).mono ?_
   rintro e w5 ⟨v5, rfl, hr5, hb5, ho5⟩
   obtain ⟨p5, c5, rfl, hm5, hs5, hq5⟩ := hr5.sl
   have HS5' := Lib.hid hs5
   have hH5 : Hid (Below w4.heap.size w4 w5) := Lib.hid (hHeld.out.trans (hb5.mono hHeld.out.size))
   have HB5 := hH5
   go_wp2_with fail
   refine hK.out _ _ hH5 (fun hHeld2 => ?_)
   clear hH5 hr5 hb5 ho5 hm5 hs5 hq5
   clear hK K hHeld
   have hHeld := hHeld2
   clear hHeld2
   (try simp only [Act.put, List.setIfInBounds_toArray, List.set_cons_zero, List.set_cons_succ])
   refine wpAnyH_less (S2 := fun w' => Hid (Below w4.heap.size w4 w') ∧ Hid (Below w5.heap.size w5 w')) (fun _ h => h.1) _ _ _ _ ?_
   have hHeld2 : (fun w' => Hid (Below w4.heap.size w4 w') ∧ Hid (Below w5.heap.size w5 w')) w5 := ⟨hHeld, Lib.hid (Below.refl _ _)⟩
   clear hHeld
   have hHeld := hHeld2
   clear hHeld2
   refine wpAnyH_take (i := 7) (oi := ⟨some 42, _, _, _, _, _⟩) (v := .string st) rfl (by kernel_rfl) (by kernel_rfl) (by kernel_rfl) (fun _ _ _ h => h) (Or.inl ⟨by rfl, fun w' hw' => ?_⟩) (by assumption) ?_
   · have g := HST.out p5 ny c5 w' (HS5'.out.later hw'.2.out)
     clear hHeld
     go_simp
   simp only [Act.put, List.setIfInBounds_toArray, List.set_cons_zero, List.set_cons_succ]
   refine wpAnyH_take (i := 8) (oi := ⟨some 43, _, _, _, _, _⟩) (v := .bool false) rfl (by kernel_rfl) (by kernel_rfl) (by kernel_rfl) (fun _ _ _ h => h) (Or.inl ⟨by rfl, fun w' hw' => ?_⟩) (by assumption) ?_
   · clear hHeld
     go_simp
   simp only [Act.put, List.setIfInBounds_toArray, List.set_cons_zero, List.set_cons_succ]
   refine wpAnyH_take (i := 9) (oi := ⟨some 44, _, _, _, _, _⟩) (v := .bool false) rfl (by kernel_rfl) (by kernel_rfl) (by kernel_rfl) (fun _ _ _ h => h) (Or.inl ⟨by rfl, fun w' hw' => ?_⟩) (by assumption) ?_
   · clear hHeld
     go_simp
   simp only [Act.put, List.setIfInBounds_toArray, List.set_cons_zero, List.set_cons_succ]
   refine wpAnyH_done (by kernel_rfl) ?_ _
   clear hHeld
   have HB6 := Lib.hid (HB4.out.trans (HB5.out.mono HB4.out.size))
   clear HST HS5' HB5 HCA HRB4 HSY4 HSY HRB
   go_wp2_with fail
   refine (rec_decode pb nk cb Y0 w5 (HV1.out.1.later HB6.out) (HSB.out.later HB6.out) hk4).mono ?_
   rintro e w10 ⟨r5, L5, T5, M5, rfl, hx5, hm5, hb10, _⟩
   have hrd : ∀ w, Words w → Sl w pb nk cb Y0 → Calls Tryz.prog 50 #[.slice pb nk cb] w (GivesXr w (decX Y0)) := fun w h1 h2 => rrec_decode pb nk cb Y0 w h1 h2 HCM.out
   have hsm := decX_small Y0
   generalize decX Y0 = res at *
   obtain ⟨er, X5⟩ := res
   dsimp only at hx5 hsm ⊢
   have HS5 := Lib.hid (of_lists hx5 hm5 hsm)
   have HXX5 := Lib.hid hx5
   have HSM := Lib.hid hsm
   have HRD := Lib.hid hrd
   have HB10 := Lib.hid (HB6.out.trans (hb10.mono HB6.out.size))
   have HM5 := Lib.hid hm5
   clear hx5 hsm hrd hb10 hm5
   obtain ⟨N10, hN10⟩ : ∃ n, w10.heap.size = n := ⟨_, rfl⟩
   obtain ⟨w11, hwn, hxn, hbn⟩ : ∃ w11, (w10.alloc (.cells zr 51)).setRow N10 (rcs r5) = w11 ∧ RB w11 N10 r5 ∧ Below w10.heap.size w10 w11 := ⟨_, rfl, by rw [← hN10]; exact setRow_heap _ _ _ _ _ _ (alloc_block w10 _), below_setRow ((Below.refl _ _).alloc (Nat.le_refl _) _) (by omega) _⟩
   have hxz : RB (w10.alloc (.cells zr 51)) N10 rz := by rw [← hN10]; exact alloc_block w10 _
   have HX11 := Lib.hid hxn
   have HZ10 := Lib.hid hxz
   have HBN11 := Lib.hid hbn
   have HB11 := Lib.hid (HB10.out.trans (hbn.mono HB10.out.size))
   have HW11 := Lib.hid hwn
   have HN10 := Lib.hid hN10
   clear hwn hxn hbn hxz hN10
   have HM11 := Lib.hid (HM5.out.later HBN11.out)
   go_wp2_with ((try rw [HN10.out]); (with_reducible refine wpList_store_rc r5 HZ10.out ?_ ?_ ?_); rfl; rfl; rw [HW11.out])
   refine (HRD.out w11 (HV1.out.1.later HB11.out) (HSB.out.later HB11.out)).mono ?_
   rintro e w20 ⟨r6, L6, T6, M6, rfl, hx6, hm6, hb20, _⟩
   dsimp only at hx6 ⊢
   have HS6 := Lib.hid (of_lists hx6 hm6 HSM.out)
   have HXX6 := Lib.hid hx6
   have HB20 := Lib.hid (HB11.out.trans (hb20.mono HB11.out.size))
   have HXa := Lib.hid (HX11.out.later hb20)
   have HMa := Lib.hid (HM11.out.later hb20)
   have HMb := Lib.hid hm6
   clear hx6 hm6 hb20
   obtain ⟨N20, hN20⟩ : ∃ n, w20.heap.size = n := ⟨_, rfl⟩
   obtain ⟨w21, hwn, hxn, hbn⟩ : ∃ w21, (w20.alloc (.cells zr 51)).setRow N20 (rcs r6) = w21 ∧ RB w21 N20 r6 ∧ Below w20.heap.size w20 w21 := ⟨_, rfl, by rw [← hN20]; exact setRow_heap _ _ _ _ _ _ (alloc_block w20 _), below_setRow ((Below.refl _ _).alloc (Nat.le_refl _) _) (by omega) _⟩
   have hxz : RB (w20.alloc (.cells zr 51)) N20 rz := by rw [← hN20]; exact alloc_block w20 _
   have HX21 := Lib.hid hxn
   have HZ20 := Lib.hid hxz
   have HBN21 := Lib.hid hbn
   have HB21 := Lib.hid (HB20.out.trans (hbn.mono HB20.out.size))
   have HW21 := Lib.hid hwn
   have HN20 := Lib.hid hN20
   clear hwn hxn hbn hxz hN20
   have HXa := Lib.hid (HXa.out.later HBN21.out)
   have HMa := Lib.hid (HMa.out.later HBN21.out)
   have HMb := Lib.hid (HMb.out.later HBN21.out)
   go_wp2_with (first | ((try rw [HN20.out]); (with_reducible refine wpList_store_rc r6 HZ20.out ?_ ?_ ?_); rfl; rfl; rw [HW21.out]) | ((with_reducible refine wpList_load_rc HXa.out ?_ ?_); rfl) | ((with_reducible refine wpList_load_rc HX21.out ?_ ?_); rfl))
   refine (rrec_same r5 r6 L5 T5 M5 L6 T6 M6 w21 HMa.out HMb.out HS5.out HS6.out).mono ?_
   rintro e w22 ⟨rfl, hb22⟩
   rw [decide_eq_true (HXX5.out.trans HXX6.out.symm)]
   have HB22 := Lib.hid (HB21.out.trans (hb22.mono HB21.out.size))
   clear hb22
   go_wp2_with fail
   refine (rec_works w22 (HV1.out.later HB22.out)).mono ?_
   rintro e w24 ⟨rfl, h24⟩
   have HB24 := Lib.hid (HB22.out.trans (h24.mono HB22.out.size))
   clear h24
   go_wp2_with fail
   go_ret
   exact ⟨rfl, HB0.out.trans (HB24.out.mono HB0.out.size)⟩
end Go.Proofs.YtfdgnniicjdjdaaGreatDoor
namespace Go.Proofs.YtfdgnniicjdjdaaGreatDoor
open Go.RowKit Go.ChangeShapes Go.WideShapes Go.Deep
set_option linter.unusedVariables false
set_option maxRecDepth 10000
theorem recCells20 : Tryz.prog.cellsOf 51 = 20 := by kernel_rfl
def RecIn (w : World) (a : Array Value) : Prop := ∃ (r : Rv) (L : List Ln) (T : List Tk) (M : List Ln), a = rcs r ∧ Rxok (r.x L T M) ∧ RvM w r L T M
section
variable {H : Type} {enc : TypeId × Value → H} {w : World} {base : Nat} {held : Bool}
theorem rkey_trod {fuel : Nat} {x y z : Value} {d : DataW H × List MemPlace} (h : DataW.trod enc Tryz.prog w base (fun _ => true) held fuel 45 [x, y, z] = some d) : ∃ k : K, Kok k ∧ x = .int .u8 k.1 ∧ y = .int .u8 k.2.1 ∧ z = .int .u8 k.2.2 := by
 obtain ⟨xs, n, _, _, hlen, hxl, hg⟩ := DataW.trod_struct Tryz.underlying45 h
 have h3 : xs.length = 3 := hxl
 have t0 := hg 0 _ rfl
 have t1 := hg 1 _ rfl
 have t2 := hg 2 _ rfl
 rw [List.getElem?_eq_getElem (by omega)] at t0 t1 t2
 have e0 : DataW.trod enc Tryz.prog w base (fun _ => true) held n 5 [x] = some (xs[0]'(by omega)) := t0
 have e1 : DataW.trod enc Tryz.prog w base (fun _ => true) held n 5 [y] = some (xs[1]'(by omega)) := t1
 have e2 : DataW.trod enc Tryz.prog w base (fun _ => true) held n 5 [z] = some (xs[2]'(by omega)) := t2
 obtain ⟨z0, hv0, _, wf0⟩ := DataW.trod_int Tryz.underlying5 e0
 obtain ⟨z1, hv1, _, wf1⟩ := DataW.trod_int Tryz.underlying5 e1
 obtain ⟨z2, hv2, _, wf2⟩ := DataW.trod_int Tryz.underlying5 e2
 simp at hv0 hv1 hv2
 exact ⟨(z0, z1, z2), ⟨bounds_u8 wf0, bounds_u8 wf1, bounds_u8 wf2⟩, hv0, hv1, hv2⟩
theorem prog_trod {fuel : Nat} {v0 v1 v2 v3 v4 v5 v6 v7 v8 v9 : Value} {d : DataW H × List MemPlace} (hf : DataW.trod enc Tryz.prog w base (fun _ => true) held fuel 49 [v0, v1, v2, v3, v4, v5, v6, v7, v8, v9] = some d) : ∃ (k od po : Int) (lp : Option Addr) (ln lcp : Nat) (tp : Option Addr) (tn tcp : Nat) (wp : Option Addr) (wn wcp : Nat) (sk fr to q : Int) (L : List Ln) (T : List Tk) (M : List Ln), [v0, v1, v2, v3, v4, v5, v6, v7, v8, v9] = [.int .u8 k, .int .u32 od, .int .u8 po, .slice lp ln lcp, .slice tp tn tcp, .slice wp wn wcp, .int .u8 sk, .int .u8 fr, .int .u8 to, .int .i64 q] ∧ Pgok ⟨k, od, po, L, T, M, sk, fr, to, q⟩ ∧ PgM w lp ln lcp L tp tn tcp T wp wn wcp M := by
 obtain ⟨xs, n, _, _, hlen, hxl, hg⟩ := DataW.trod_struct Tryz.underlying49 hf
 have h10 : xs.length = 10 := hxl
 have t0 := hg 0 _ rfl
 have t1 := hg 1 _ rfl
 have t2 := hg 2 _ rfl
 have t3 := hg 3 _ rfl
 have t4 := hg 4 _ rfl
 have t5 := hg 5 _ rfl
 have t6 := hg 6 _ rfl
 have t7 := hg 7 _ rfl
 have t8 := hg 8 _ rfl
 have t9 := hg 9 _ rfl
 rw [List.getElem?_eq_getElem (by omega)] at t0 t1 t2 t3 t4 t5 t6 t7 t8 t9
 have e0 : DataW.trod enc Tryz.prog w base (fun _ => true) held n 5 [v0] = some (xs[0]'(by omega)) := t0
 have e1 : DataW.trod enc Tryz.prog w base (fun _ => true) held n 43 [v1] = some (xs[1]'(by omega)) := t1
 have e2 : DataW.trod enc Tryz.prog w base (fun _ => true) held n 5 [v2] = some (xs[2]'(by omega)) := t2
 have e3 : DataW.trod enc Tryz.prog w base (fun _ => true) held n 46 [v3] = some (xs[3]'(by omega)) := t3
 have e4 : DataW.trod enc Tryz.prog w base (fun _ => true) held n 47 [v4] = some (xs[4]'(by omega)) := t4
 have e5 : DataW.trod enc Tryz.prog w base (fun _ => true) held n 46 [v5] = some (xs[5]'(by omega)) := t5
 have e6 : DataW.trod enc Tryz.prog w base (fun _ => true) held n 5 [v6] = some (xs[6]'(by omega)) := t6
 have e7 : DataW.trod enc Tryz.prog w base (fun _ => true) held n 5 [v7] = some (xs[7]'(by omega)) := t7
 have e8 : DataW.trod enc Tryz.prog w base (fun _ => true) held n 5 [v8] = some (xs[8]'(by omega)) := t8
 have e9 : DataW.trod enc Tryz.prog w base (fun _ => true) held n 2 [v9] = some (xs[9]'(by omega)) := t9
 obtain ⟨z0, hv0, _, wf0⟩ := DataW.trod_int Tryz.underlying5 e0
 obtain ⟨z1, hv1, _, wf1⟩ := DataW.trod_int Tryz.underlying43 e1
 obtain ⟨z2, hv2, _, wf2⟩ := DataW.trod_int Tryz.underlying5 e2
 obtain ⟨z6, hv6, _, wf6⟩ := DataW.trod_int Tryz.underlying5 e6
 obtain ⟨z7, hv7, _, wf7⟩ := DataW.trod_int Tryz.underlying5 e7
 obtain ⟨z8, hv8, _, wf8⟩ := DataW.trod_int Tryz.underlying5 e8
 obtain ⟨z9, hv9, _, wf9⟩ := DataW.trod_int Tryz.underlying2 e9
 simp at hv0 hv1 hv2 hv6 hv7 hv8 hv9
 subst hv0 hv1 hv2 hv6 hv7 hv8 hv9
 obtain ⟨p3, n3, c3, rfl⟩ := slice_shape Tryz.underlying46 e3
 obtain ⟨p4, n4, c4, rfl⟩ := slice_shape Tryz.underlying47 e4
 obtain ⟨p5, n5, c5, rfl⟩ := slice_shape Tryz.underlying46 e5
 obtain ⟨L, hL, hLok⟩ := open_lines e3
 obtain ⟨T, hT, hTok⟩ := open_takes e4
 obtain ⟨M, hM, hMok⟩ := open_lines e5
 exact ⟨z0, z1, z2, p3, n3, c3, p4, n4, c4, p5, n5, c5, z6, z7, z8, z9, L, T, M, rfl, ⟨bounds_u8 wf0, bounds32 wf1, bounds_u8 wf2, hLok, hTok, hMok, bounds_u8 wf6, bounds_u8 wf7, bounds_u8 wf8, bounds_i64 wf9⟩, ⟨hL, hT, hM⟩⟩
end
theorem open_rec {H : Type} {enc : TypeId × Value → H} {w : World} {base b0 : Nat} {held : Bool} {r : Reach} {v : Value} {d : DataW H} {p : List MemPlace}
 (hv : Value.okWide Tryz.prog w r b0 51 v) (h : DataW.Trod enc Tryz.prog w base (fun _ => true) held 51 v d p) : ∃ c, v = .agg c ∧ RecIn w c := by
 obtain ⟨c, rfl, hsz⟩ := okWide_struct Tryz.underlying51 hv
 obtain ⟨fuel, hf⟩ := h
 obtain ⟨xs, n, _, _, hlen, hxl, hg⟩ := DataW.trod_struct Tryz.underlying51 hf
 rw [recCells20] at hlen
 have h9 : xs.length = 9 := hxl
 obtain ⟨v0, v1, v2, v3, v4, v5, v6, v7, v8, v9, v10, v11, v12, v13, v14, v15, v16, v17, v18, v19, hcs⟩ : ∃ v0 v1 v2 v3 v4 v5 v6 v7 v8 v9 v10 v11 v12 v13 v14 v15 v16 v17 v18 v19, c.toList = [v0, v1, v2, v3, v4, v5, v6, v7, v8, v9, v10, v11, v12, v13, v14, v15, v16, v17, v18, v19] := by
  match h : c.toList, hlen with
  | [a0, a1, a2, a3, a4, a5, a6, a7, a8, a9, a10, a11, a12, a13, a14, a15, a16, a17, a18, a19], _ => exact ⟨a0, a1, a2, a3, a4, a5, a6, a7, a8, a9, a10, a11, a12, a13, a14, a15, a16, a17, a18, a19, rfl⟩
 have hcells : (Value.agg c).cells.toList = c.toList := rfl
 rw [hcells, hcs] at hg
 have t0 := hg 0 _ rfl
 have t1 := hg 1 _ rfl
 have t2 := hg 2 _ rfl
 have t3 := hg 3 _ rfl
 have t4 := hg 4 _ rfl
 have t5 := hg 5 _ rfl
 have t6 := hg 6 _ rfl
 have t7 := hg 7 _ rfl
 have t8 := hg 8 _ rfl
 rw [List.getElem?_eq_getElem (by omega)] at t0 t1 t2 t3 t4 t5 t6 t7 t8
 have e0 : DataW.trod enc Tryz.prog w base (fun _ => true) held n 5 [v0] = some (xs[0]'(by omega)) := t0
 have e1 : DataW.trod enc Tryz.prog w base (fun _ => true) held n 43 [v1] = some (xs[1]'(by omega)) := t1
 have e2 : DataW.trod enc Tryz.prog w base (fun _ => true) held n 43 [v2] = some (xs[2]'(by omega)) := t2
 have e3 : DataW.trod enc Tryz.prog w base (fun _ => true) held n 5 [v3] = some (xs[3]'(by omega)) := t3
 have e4 : DataW.trod enc Tryz.prog w base (fun _ => true) held n 4 [v4] = some (xs[4]'(by omega)) := t4
 have e5 : DataW.trod enc Tryz.prog w base (fun _ => true) held n 45 [v5, v6, v7] = some (xs[5]'(by omega)) := t5
 have e6 : DataW.trod enc Tryz.prog w base (fun _ => true) held n 2 [v8] = some (xs[6]'(by omega)) := t6
 have e7 : DataW.trod enc Tryz.prog w base (fun _ => true) held n 5 [v9] = some (xs[7]'(by omega)) := t7
 have e8 : DataW.trod enc Tryz.prog w base (fun _ => true) held n 49 [v10, v11, v12, v13, v14, v15, v16, v17, v18, v19] = some (xs[8]'(by omega)) := t8
 obtain ⟨z0, hv0, _, wf0⟩ := DataW.trod_int Tryz.underlying5 e0
 obtain ⟨z1, hv1, _, wf1⟩ := DataW.trod_int Tryz.underlying43 e1
 obtain ⟨z2, hv2, _, wf2⟩ := DataW.trod_int Tryz.underlying43 e2
 obtain ⟨z3, hv3, _, wf3⟩ := DataW.trod_int Tryz.underlying5 e3
 obtain ⟨z6, hv6, _, wf6⟩ := DataW.trod_int Tryz.underlying2 e6
 obtain ⟨z7, hv7, _, wf7⟩ := DataW.trod_int Tryz.underlying5 e7
 obtain ⟨z4, hv4, _⟩ := DataW.trod_bool Tryz.underlying4 e4
 obtain ⟨key, hkey, hk0, hk1, hk2⟩ := rkey_trod e5
 obtain ⟨k, od, po, lp, ln, lcp, tp, tn, tcp, wp, wn, wcp, sk, fr, to, q, L, T, M, hpe, hpok, hpm⟩ := prog_trod e8
 simp at hv0 hv1 hv2 hv3 hv4 hv6 hv7
 simp only [List.cons.injEq, and_true] at hpe
 obtain ⟨g0, g1, g2, g3, g4, g5, g6, g7, g8, g9⟩ := hpe
 subst hv0 hv1 hv2 hv3 hv4 hv6 hv7 hk0 hk1 hk2 g0 g1 g2 g3 g4 g5 g6 g7 g8 g9
 refine ⟨c, rfl, ⟨z0, z1, z2, z3, z4, key.1, key.2.1, key.2.2, z6, z7, k, od, po, lp, ln, lcp, tp, tn, tcp, wp, wn, wcp, sk, fr, to, q⟩, L, T, M, Array.ext' hcs, ⟨bounds_u8 wf0, bounds32 wf1, bounds32 wf2, bounds_u8 wf3, hkey, bounds_i64 wf6, bounds_u8 wf7, hpok⟩, hpm⟩
end Go.Proofs.YtfdgnniicjdjdaaGreatDoor
