import Derived.Test.YtfdgnniicjdjdaaGreatDoorPr32
namespace Go.Proofs.YtfdgnniicjdjdaaGreatDoor
open Go.RowKit Go.ChangeShapes Go.WideShapes
set_option linter.unusedVariables false
set_option linter.unusedSimpArgs false
set_option maxRecDepth 10000
theorem decP_small (B : List Nat) : (decP B).2.lines.length ≤ 3 ∧ (decP B).2.takes.length ≤ 12 ∧ (decP B).2.owes.length ≤ 3 := by
 unfold decP
 split
 · exact ⟨Nat.zero_le _, Nat.zero_le _, Nat.zero_le _⟩
 · split
   · exact ⟨listR_most _ _ _, listR_most _ _ _, listR_most _ _ _⟩
   · exact ⟨Nat.zero_le _, Nat.zero_le _, Nat.zero_le _⟩
theorem decP_ok {B : List Nat} (hB : ∀ y ∈ B, y < 256) : Pgok (decP B).2 := by
 by_cases h : (decP B).1 = 0
 · exact (enc_dec hB h).2.2
 · unfold decP at h ⊢
   split
   · exact noP_ok
   · rename_i h1
     rw [if_neg h1] at h
     split
     · rename_i h2
       rw [if_pos h2] at h
       exact absurd rfl h
     · exact noP_ok
theorem nat_u8 {x : Nat} (h : x < 256) : (0 : Int) ≤ (x : Nat) ∧ ((x : Nat) : Int) ≤ 255 := by omega
theorem nat_u32 {x : Nat} (h : x < 4294967296) : (0 : Int) ≤ (x : Nat) ∧ ((x : Nat) : Int) ≤ 4294967295 := by omega
theorem rdX_ok {k : Int} (hk : kOk k = true) {S : St} (h : ∀ y ∈ S.2, y < 256) : Rxok (rdX k S).rx ∧ (rdX k S).rx.pg.lines.length ≤ 3 ∧ (rdX k S).rx.pg.takes.length ≤ 12 ∧ (rdX k S).rx.pg.owes.length ≤ 3 := by
 have h4 := fit_4 h
 have b4 := numR_bytes h 4
 have hz : (0 : Int) ≤ 0 ∧ (0 : Int) ≤ 255 := by omega
 have hz4 : (0 : Int) ≤ 0 ∧ (0 : Int) ≤ 4294967295 := by omega
 have hk0 : Kok ((0, 0, 0) : K) := ⟨hz, hz, hz⟩
 have hd0 : In64 0 := by simp [In64]
 have hn : ([] : List Ln).length ≤ 3 ∧ ([] : List Tk).length ≤ 12 ∧ ([] : List Ln).length ≤ 3 := ⟨Nat.zero_le _, Nat.zero_le _, Nat.zero_le _⟩
 rcases kOk_cases hk with e | e | e | e | e | e | e | e | e <;> subst e
 · rw [show rdX 1 S = rd1 S from rfl]
   unfold rd1
   dsimp only
   have hb := bytesR_lt b4 512
   split
   · exact ⟨⟨⟨by show (0 : Int) ≤ 1; omega, by show (1 : Int) ≤ 255; omega⟩, nat_u32 h4, hz4, hz, hk0, hd0, hz, decP_ok hb⟩, decP_small _⟩
   · exact ⟨⟨⟨by show (0 : Int) ≤ 1; omega, by show (1 : Int) ≤ 255; omega⟩, nat_u32 h4, hz4, hz, hk0, hd0, hz, noP_ok⟩, hn⟩
 · rw [show rdX 2 S = rd2 S from rfl]
   unfold rd2
   dsimp only
   exact ⟨⟨⟨by show (0 : Int) ≤ 2; omega, by show (2 : Int) ≤ 255; omega⟩, nat_u32 h4, nat_u32 (fit_4 b4), nat_u8 (fit_1 (numR_bytes b4 4)), hk0, hd0, hz, noP_ok⟩, hn⟩
 · rw [show rdX 3 S = rd3 3 S from rfl]
   unfold rd3 keyR
   dsimp only
   have b5 := numR_bytes b4 1
   have b6 := numR_bytes b5 1
   have b7 := numR_bytes b6 1
   exact ⟨⟨⟨by show (0 : Int) ≤ 3; omega, by show (3 : Int) ≤ 255; omega⟩, hz4, nat_u32 h4, hz, ⟨nat_u8 (fit_1 b4), nat_u8 (fit_1 b5), nat_u8 (fit_1 b6)⟩, sgn_in (fit8 b7), hz, noP_ok⟩, hn⟩
 · rw [show rdX 4 S = rd4 4 S from rfl]
   exact ⟨⟨⟨by show (0 : Int) ≤ 4; omega, by show (4 : Int) ≤ 255; omega⟩, hz4, nat_u32 h4, hz, hk0, hd0, hz, noP_ok⟩, hn⟩
 · rw [show rdX 5 S = rd4 5 S from rfl]
   exact ⟨⟨⟨by show (0 : Int) ≤ 5; omega, by show (5 : Int) ≤ 255; omega⟩, hz4, nat_u32 h4, hz, hk0, hd0, hz, noP_ok⟩, hn⟩
 · rw [show rdX 6 S = rd3 6 S from rfl]
   unfold rd3 keyR
   dsimp only
   have b5 := numR_bytes b4 1
   have b6 := numR_bytes b5 1
   have b7 := numR_bytes b6 1
   exact ⟨⟨⟨by show (0 : Int) ≤ 6; omega, by show (6 : Int) ≤ 255; omega⟩, hz4, nat_u32 h4, hz, ⟨nat_u8 (fit_1 b4), nat_u8 (fit_1 b5), nat_u8 (fit_1 b6)⟩, sgn_in (fit8 b7), hz, noP_ok⟩, hn⟩
 · rw [show rdX 7 S = rd4 7 S from rfl]
   exact ⟨⟨⟨by show (0 : Int) ≤ 7; omega, by show (7 : Int) ≤ 255; omega⟩, hz4, nat_u32 h4, hz, hk0, hd0, hz, noP_ok⟩, hn⟩
 · rw [show rdX 8 S = rd8 S from rfl]
   exact ⟨⟨⟨by show (0 : Int) ≤ 8; omega, by show (8 : Int) ≤ 255; omega⟩, nat_u32 h4, hz4, hz, hk0, hd0, hz, noP_ok⟩, hn⟩
 · rw [show rdX 9 S = rd9 S from rfl]
   exact ⟨⟨⟨by show (0 : Int) ≤ 9; omega, by show (9 : Int) ≤ 255; omega⟩, nat_u32 h4, hz4, hz, hk0, hd0, nat_u8 (fit_1 b4), noP_ok⟩, hn⟩
theorem decX_eq (Bs : List Nat) : decX Bs = if readE Bs ≠ 0 then (readE Bs, noX) else if goodX (rdX (((numR (0, Bs) 1).2 : Nat) : Int) (numR (0, Bs) 1).1).rx = true then (0, (rdX (((numR (0, Bs) 1).2 : Nat) : Int) (numR (0, Bs) 1).1).rx) else (8, noX) := by
 unfold decX readE
 dsimp only
 by_cases hk : kOk (((numR (0, Bs) 1).2 : Nat) : Int) = true
 · rw [if_pos hk, if_pos hk]
 · rw [if_neg hk, if_neg hk]
   have hne : (if (numR (0, Bs) 1).1.1 ≠ 0 then (numR (0, Bs) 1).1.1 else 8) ≠ 0 := by split <;> omega
   rw [if_pos hne]
theorem readE_ok {Bs : List Nat} (hB : ∀ y ∈ Bs, y < 256) (h : readE Bs = 0) : Rxok (rdX (((numR (0, Bs) 1).2 : Nat) : Int) (numR (0, Bs) 1).1).rx ∧ (rdX (((numR (0, Bs) 1).2 : Nat) : Int) (numR (0, Bs) 1).1).rx.pg.lines.length ≤ 3 ∧ (rdX (((numR (0, Bs) 1).2 : Nat) : Int) (numR (0, Bs) 1).1).rx.pg.takes.length ≤ 12 ∧ (rdX (((numR (0, Bs) 1).2 : Nat) : Int) (numR (0, Bs) 1).1).rx.pg.owes.length ≤ 3 := by
 cases hk : kOk (((numR (0, Bs) 1).2 : Nat) : Int) with
 | true => exact rdX_ok hk (numR_bytes (S := (0, Bs)) hB 1)
 | false =>
  unfold readE at h
  rw [hk, if_neg (by decide)] at h
  split at h
  · rename_i h1; exact absurd h h1
  · exact absurd h (by decide)
def Nw (W : World) (r : Rv) : Prop := (∀ a, r.lp = some a → W.heap.size ≤ a.block) ∧ (∀ a, r.tp = some a → W.heap.size ≤ a.block) ∧ (∀ a, r.wp = some a → W.heap.size ≤ a.block)
theorem nw_rz (W : World) : Nw W rz := ⟨(fun a h => by cases h), (fun a h => by cases h), fun a h => by cases h⟩
theorem nw_no (W : World) {r : Rv} (h1 : r.lp = none) (h2 : r.tp = none) (h3 : r.wp = none) : Nw W r := ⟨(fun a h => by rw [h1] at h; cases h), (fun a h => by rw [h2] at h; cases h), fun a h => by rw [h3] at h; cases h⟩
def GivesXr (W : World) (res : Int × Rx) (e : Ending) (w' : World) : Prop := ∃ r L T M, e = .returned (.tuple #[.agg (rcs r), .int .i64 res.1]) ∧ r.x L T M = res.2 ∧ RvM w' r L T M ∧ Below W.heap.size W w' ∧ Nw W r
set_option maxHeartbeats 8000000 in
theorem rec_decode (p : Option Addr) (n c : Nat) (Bs : List Nat) (W : World) (hw : Words W) (hS : Sl W p n c Bs) (hn : n ≤ 600) :
 Calls Tryz.prog 49 #[.slice p n c] W (GivesXr W (decX Bs)) := by
 obtain ⟨R, hR⟩ : ∃ R, W.heap.size = R := ⟨_, rfl⟩
 obtain ⟨W0, hW0, hr0, hb0⟩ : ∃ W0, W.alloc (.cells zr 51) = W0 ∧ RB W0 R rz ∧ Below W.heap.size W W0 := ⟨_, rfl, by rw [← hR]; exact alloc_block W _, (Below.refl _ _).alloc (Nat.le_refl _) _⟩
 have hrd := read_any p n c Bs W0 (hS.later hb0) (by omega)
 have HLN : Hid (Bs.length ≤ 1000) := Lib.hid (by have := hS.len; omega)
 have HBY : Hid (∀ y ∈ Bs, y < 256) := Lib.hid hS.lt
 have HRD := Lib.hid hrd
 have HW0 := Lib.hid hW0
 have HR0 := Lib.hid hr0
 have HB0 := Lib.hid hb0
 have HWD := Lib.hid hw
 have HRE := Lib.hid hR
 have HDX := Lib.hid (decX_eq Bs)
 clear hW0 hr0 hb0 hrd hS hw hR hn
 go_enter Tryz.func49, Tryz.ntmps49
 go_upto_region 1 with (fail)
 rw [HW0.out, HRE.out]
 go_wp2_with fail
 refine HRD.out.mono ?_
 rintro e w1 ⟨B, p', c', rfl, hB, hrd, hpb, hb1⟩
 have hBl := hrd.lt
 have hs01 := hb1.size
 have hRlt := block_lt HR0.out
 have hZ : Zw w1 w1.heap.size B (0, Bs) := ⟨⟨p', c', hrd, fun a ha => by have := (hpb a ha).2; omega⟩, hBl, Nat.le_refl _, HLN.out, HBY.out⟩
 have hlow : W.heap.size ≤ B := by have := HB0.out.size; omega
 have HBW := Lib.hid (fun w (hc : Chg (fun k => k = B) w1 w) => Chg.below (W := W) (B := W.heap.size) (HB0.out.trans (hb1.mono HB0.out.size)) (by have := HB0.out.size; omega) hc fun k hk => by omega)
 have hrr := rec_read w1 w1.heap.size B Bs hZ (fun w hc => HWD.out.later (HBW.out w hc))
 have HR1 := Lib.hid (HR0.out.later hb1)
 have HRB : Hid (R ≠ B) := Lib.hid (by omega)
 clear hB hrd hpb hb1 hBl hs01 hRlt hZ hlow HRD
 go_wp2_with fail
 refine hrr.mono ?_
 rintro e w2 ⟨r, L, T, M, rfl, hm, hx, hc, hf1, hf2, hf3⟩
 have HFR : Hid ((∀ a, r.lp = some a → R < a.block) ∧ (∀ a, r.tp = some a → R < a.block) ∧ (∀ a, r.wp = some a → R < a.block)) := Lib.hid (by
  have := block_lt HR1.out
  exact ⟨fun a h => by have := hf1 a h; omega, fun a h => by have := hf2 a h; omega, fun a h => by have := hf3 a h; omega⟩)
 clear hf1 hf2 hf3
 have HB2 := Lib.hid (HBW.out w2 hc)
 have HR2 := Lib.hid (HR1.out.chg hc HRB.out)
 have HX := Lib.hid hx
 have HM := Lib.hid hm
 clear hm hx hc hrr HR1 HRB HBW
 obtain ⟨ec, hec⟩ : ∃ z, readE Bs = z := ⟨_, rfl⟩
 rw [hec]
 have HEC := Lib.hid hec
 clear hec
 obtain ⟨N2, hN2⟩ : ∃ n, w2.heap.size = n := ⟨_, rfl⟩
 obtain ⟨w3, hwn, hxn, hbn⟩ : ∃ w3, (w2.alloc (.cells zr 51)).setRow N2 (rcs r) = w3 ∧ RB w3 N2 r ∧ Below w2.heap.size w2 w3 := ⟨_, rfl, by rw [← hN2]; exact setRow_heap _ _ _ _ _ _ (alloc_block w2 _), below_setRow ((Below.refl _ _).alloc (Nat.le_refl _) _) (by omega) _⟩
 have hxz : RB (w2.alloc (.cells zr 51)) N2 rz := by rw [← hN2]; exact alloc_block w2 _
 have HX3 := Lib.hid hxn
 have HXZ := Lib.hid hxz
 have HR3 := Lib.hid (HR2.out.later hbn)
 have HB3 := Lib.hid (HB2.out.trans (hbn.mono HB2.out.size))
 have HM3 := Lib.hid (HM.out.later hbn)
 have HWN := Lib.hid hwn
 have HNN := Lib.hid hN2
 have HWR : Hid (W.heap.size ≤ R) := Lib.hid (by have := HRE.out; omega)
 clear hwn hxn hbn hxz hN2 HM HR2
 by_cases h0 : ec = 0
 case neg =>
  have d0 : (ec != 0) = true := by simpa using h0
  have HRF := Lib.hid (HR3.out.set rz)
  have HG : Hid (GivesXr W (decX Bs) (.returned (.tuple #[.agg zr, .int .i64 ec])) (w3.setRow R zr)) := Lib.hid (by
   have hp : decX Bs = (ec, noX) := by rw [HDX.out, if_pos (by rw [HEC.out]; exact h0), HEC.out]
   rw [hp]
   exact ⟨rz, [], [], [], rfl, rfl, rz_m _, below_setRow HB3.out HWR.out zr, nw_rz _⟩)
  clear h0
  go_wp2_with (first | ((try rw [HNN.out]); (with_reducible refine wpList_store_rc r HXZ.out ?_ ?_ ?_); rfl; rfl; rw [HWN.out]) | ((with_reducible refine wpList_store_rc rz HR3.out ?_ ?_ ?_); rfl; rfl))
  (try simp only [Exit.inBlock, Exit.then])
  refine bodyPost_ret (v := .tuple #[.agg zr, .int .i64 ec]) ?_ rfl HG.out
  exact results_rc rfl _ _ R rz _ rfl rfl HRF.out
 have d0 : (ec != 0) = false := by simp [h0]
 have he0 : readE Bs = 0 := HEC.out.trans h0
 have hx := HX.out he0
 obtain ⟨hok, hs1, hs2, hs3⟩ := readE_ok HBY.out he0
 rw [← hx] at hok hs1 hs2 hs3
 have hdx := HDX.out
 rw [if_neg (fun h => h he0), ← hx] at hdx
 have hgd := rec_good r L T M w3 (HWD.out.later HB3.out) HM3.out hok ⟨by have := HM3.out.l.len; have h : L.length ≤ 3 := hs1; omega, by have := HM3.out.t.len; have h : T.length ≤ 12 := hs2; omega, by have := HM3.out.o.len; have h : M.length ≤ 3 := hs3; omega⟩
 have HDD := Lib.hid hdx
 clear hdx hok hs1 hs2 hs3 hx he0 HDX HX
 go_wp2_with (first | ((try rw [HNN.out]); (with_reducible refine wpList_store_rc r HXZ.out ?_ ?_ ?_); rfl; rfl; rw [HWN.out]) | ((with_reducible refine wpList_load_rc HX3.out ?_ ?_); rfl))
 refine hgd.mono ?_
 rintro e w4 ⟨rfl, hb4⟩
 have HB4 := Lib.hid (HB3.out.trans (hb4.mono HB3.out.size))
 have HR4 := Lib.hid (HR3.out.later hb4)
 have HX4 := Lib.hid (HX3.out.later hb4)
 have HM4 := Lib.hid (HM3.out.later hb4)
 clear hb4 hgd
 cases hg : goodX (r.x L T M)
 case false =>
  have HRF := Lib.hid (HR4.out.set rz)
  have HG : Hid (GivesXr W (decX Bs) (.returned (.tuple #[.agg zr, .int .i64 8])) (w4.setRow R zr)) := Lib.hid (by
   have hp : decX Bs = (8, noX) := by rw [HDD.out, if_neg (by rw [hg]; decide)]
   rw [hp]
   exact ⟨rz, [], [], [], rfl, rfl, rz_m _, below_setRow HB4.out HWR.out zr, nw_rz _⟩)
  go_wp2_with ((with_reducible refine wpList_store_rc rz HR4.out ?_ ?_ ?_); rfl; rfl)
  (try simp only [Exit.inBlock, Exit.then])
  refine bodyPost_ret (v := .tuple #[.agg zr, .int .i64 8]) ?_ rfl HG.out
  exact results_rc rfl _ _ R rz _ rfl rfl HRF.out
 have HRF := Lib.hid (HR4.out.set r)
 have HG : Hid (GivesXr W (decX Bs) (.returned (.tuple #[.agg (rcs r), .int .i64 0])) (w4.setRow R (rcs r))) := Lib.hid (by
  have hp : decX Bs = (0, r.x L T M) := by rw [HDD.out, if_pos hg]
  rw [hp]
  exact ⟨r, L, T, M, rfl, rfl, pgm_chg HM4.out (S := fun k => k = R) ⟨rfl, rfl, rfl, by simp [World.setRow], fun k _ hn => setRow_other _ _ _ _ hn⟩ (fun a h e => by have := HFR.out.1 a h; omega) (fun a h e => by have := HFR.out.2.1 a h; omega) (fun a h e => by have := HFR.out.2.2 a h; omega), below_setRow HB4.out HWR.out (rcs r), (fun a h => by have := HFR.out.1 a h; have := HRE.out; omega), (fun a h => by have := HFR.out.2.1 a h; have := HRE.out; omega), fun a h => by have := HFR.out.2.2 a h; have := HRE.out; omega⟩)
 clear hg
 go_wp2_with (first | ((with_reducible refine wpList_load_rc HX4.out ?_ ?_); rfl) | ((with_reducible refine wpList_store_rc r HR4.out ?_ ?_ ?_); rfl; rfl))
 (try simp only [Exit.inBlock, Exit.then])
 refine bodyPost_ret (v := .tuple #[.agg (rcs r), .int .i64 0]) ?_ rfl HG.out
 exact results_rc rfl _ _ R r _ rfl rfl HRF.out
theorem Rr.chg {w w' : World} {B : Nat} {p0 : Option Addr} {S : St} {T : Nat → Prop} (h : Rr w B p0 S) (hc : Chg T w w') (hT : ∀ k, T k → B < k) : Rr w' B p0 S := by
 obtain ⟨p, n, c, h1, h2⟩ := h.box
 refine ⟨⟨p, n, c, (hc.block B (block_lt h1) fun ht => absurd (hT B ht) (Nat.lt_irrefl _)).trans h1, fun h0 => ?_⟩, h.apart⟩
 obtain ⟨hs, hf, hm⟩ := h2 h0
 refine ⟨?_, hf, hm⟩
 by_cases hne : S.2 = []
 · refine ⟨hs.len, hs.cap, hs.nil, hs.lt, fun hn => ?_⟩
   have := hs.len
   rw [hne] at this
   simp at this
   omega
 · exact hs.keep fun a ha hlt => hc.block a.block hlt fun ht => by
    obtain ⟨a', hp, hb⟩ := hf a ha
    have h3 := h.apart h0 hne a' hp
    have h4 := hT _ ht
    omega
theorem Rr.err {w : World} {B : Nat} {p0 : Option Addr} {S : St} (h : Rr w B p0 S) : w.cell? ⟨B, 1, none⟩ = some (.int .i64 S.1) := by
 obtain ⟨p, n, c, h1, _⟩ := h.box
 exact block_cell h1 rfl
theorem countR_le (S : St) (most : Nat) : (countR S most).2 ≤ most := by
 unfold countR
 split
 · split
   · exact Nat.zero_le _
   · rename_i h; exact Nat.le_of_not_lt h
 · exact Nat.zero_le _
theorem num8_lt {w : World} {B : Nat} {p0 : Option Addr} {S : St} (h : Rr w B p0 S) : (numR S 8).2 < 18446744073709551616 := by
 by_cases h0 : S.1 = 0
 · obtain ⟨p, n, c, _, hp⟩ := h.box
   exact numR_fit (hp h0).1.lt (n := 8) (by omega) (by omega)
 · rw [pgnum_bad h0 8 (by omega)]
   show 0 < 18446744073709551616
   omega
set_option maxHeartbeats 8000000 in
theorem rdlines_any {w : World} {B : Nat} {p0 : Option Addr} {S : St} (h : Rr w B p0 S) : Calls Tryz.prog 171 #[.pointer (some ⟨B, 0, none⟩)] w fun e w' => ∃ p n c L, e = .returned (.slice p n c) ∧ LL w' p n c L ∧ (∀ a, p = some a → w.heap.size ≤ a.block) ∧ n ≤ 3 ∧ Rr w' B p0 (rlistR lineR 3 S).1 ∧ Chg (fun k => k = B) w w' ∧ ((rlistR lineR 3 S).1.1 = 0 → L = (rlistR lineR 3 S).2) := by
 have hn := pgcount_any h 3 (by omega)
 rw [show (((3 : Nat) : Int)) = 3 from rfl] at hn
 have hle := countR_le S 3
 have hco : rlistR lineR 3 S = manyR lineR (countR S 3).2 (countR S 3).1 := rfl
 rw [hco]
 clear hco
 have hBw : B < w.heap.size := by obtain ⟨_, _, _, h1, _⟩ := h.box; exact block_lt h1
 generalize countR S 3 = R at *
 obtain ⟨S1, n⟩ := R
 dsimp only at hn hle ⊢
 clear h
 go_enter Tryz.func171, Tryz.ntmps171
 go_wp2_with fail
 refine hn.mono ?_
 rintro e w1 ⟨rfl, hz, hc⟩
 have HZ := Lib.hid hz
 have HC := Lib.hid hc
 clear hn hz hc
 go_wp2_with fail
 go_loopw [3, 5] (fun v i wr => ∃ j : Nat, j ≤ n ∧ i = .int .i64 j ∧ Hid (Rr wr B p0 (manyR lineR j S1).1) ∧ Hid (wr.ownsRow w.heap.size 234 2 v j (flatG lc (manyR lineR j S1).2)) ∧ Hid (Chg (fun k => k = B) w wr)) (fun _ i _ => n - (Go.RowKit.intOf i).toNat)
 case atStart => exact ⟨0, Nat.zero_le _, rfl, HZ, Lib.hid (World.ownsRow_nil _ _ _ _), HC⟩
 case round =>
  obtain ⟨j, hj, rfl, HZj, HOj, HCj⟩ := hrel
  have x1 := HZj.out.err
  have hml := manyR_len (f := lineR) S1 j
  by_cases hltj : j < n
  case neg =>
   obtain rfl : n = j := by omega
   obtain ⟨pv, cv, hv, hs, hp⟩ := SlG.of_own (d := l0) lc_len (by decide) HOj.out
   subst hv
   have HS := Lib.hid hs
   have HP := Lib.hid hp
   clear hs hp x1
   go_wp2_with fail
   go_ret
   exact ⟨pv, _, cv, _, rfl, HS.out, HP.out, hle, HZj.out, HCj.out, fun _ => rfl⟩
  have hltj' : (j : Int) < n := by omega
  by_cases he : (manyR lineR j S1).1.1 = 0
  case neg =>
   have de : ((manyR lineR j S1).1.1 == 0) = false := by simpa using he
   obtain ⟨kk, rfl⟩ : ∃ kk, n = j + kk := ⟨n - j, by omega⟩
   have hstop := manyR_stop (f := lineR) (fun S h => lineR_bad h) S1 he kk
   obtain ⟨pv, cv, hv, hs, hp⟩ := SlG.of_own (d := l0) lc_len (by decide) HOj.out
   subst hv
   have HS := Lib.hid hs
   have HP := Lib.hid hp
   have HST := Lib.hid hstop
   have HE := Lib.hid he
   clear hs hp hstop he
   go_wp2_with fail
   go_ret
   exact ⟨pv, _, cv, _, rfl, HS.out, HP.out, by omega, by rw [HST.out]; exact HZj.out, HCj.out, fun h0 => absurd (by rw [← HST.out]; exact h0) HE.out⟩
  have de : ((manyR lineR j S1).1.1 == 0) = true := by simpa using he
  obtain ⟨X, hX⟩ : ∃ n, wr.heap.size = n := ⟨_, rfl⟩
  obtain ⟨w2, hw2, hx2, hb2⟩ : ∃ w2, (wr.alloc (.cells #[.int .u8 0, .int .i64 0] 234)).setRow X #[.int .u8 0, .int .i64 0] = w2 ∧ w2.heap[X]? = some (.cells #[.int .u8 0, .int .i64 0] 234 (0, 0)) ∧ Below wr.heap.size wr w2 := ⟨_, rfl, by rw [← hX]; exact setRow_heap _ _ _ _ _ _ (alloc_block wr _), below_setRow ((Below.refl _ _).alloc (Nat.le_refl _) _) (by omega) _⟩
  have hx1 := alloc_block wr (.cells #[.int .u8 0, .int .i64 0] 234)
  rw [hX] at hx1
  have HX1 := Lib.hid hx1
  have HX2 := Lib.hid hx2
  have HW2 := Lib.hid hw2
  have HXE := Lib.hid hX
  have HBX : Hid (B < X) := Lib.hid (by have := HCj.out.size; omega)
  have HNX : Hid (w.heap.size ≤ X) := Lib.hid (by have := HCj.out.size; omega)
  have HZ2 := Lib.hid (HZj.out.later hb2)
  have HO2 := Lib.hid (row_keep (own_zero HOj.out) (Chg.of_below (S := fun _ => False) hb2) fun _ _ h => h)
  have HOL := Lib.hid HOj.out
  have HC2 := Lib.hid (HCj.out.trans (Chg.of_below (S := fun k => k = B) hb2) fun _ _ h => h)
  have hn0 := pgnum_any HZ2.out 1 (by omega)
  have hstep : manyR lineR (j + 1) S1 = ((lineR (manyR lineR j S1).1).1, (manyR lineR j S1).2 ++ [(lineR (manyR lineR j S1).1).2]) := rfl
  have HST := Lib.hid hstep
  have HE := Lib.hid he
  have hr0 := byte_lt HZ2.out
  clear hx1 hx2 hw2 hX hb2 hstep he
  generalize manyR lineR j S1 = Mj at *
  obtain ⟨Sj, Lj⟩ := Mj
  obtain ⟨R0, hR0⟩ : ∃ R, numR Sj 1 = R := ⟨_, rfl⟩
  dsimp only at hn0 HST hml HZj HOj hr0 de x1
  rw [hR0] at hn0 hr0
  have HR0 := Lib.hid hR0
  have hx0 : IntKind.u8.wrap ((R0.2 : Nat) : Int) = (R0.2 : Nat) := by simp [IntKind.wrap, IntKind.bits, IntKind.signed]; omega
  clear hR0
  go_wp2_with ((try rw [HXE.out]); (with_reducible refine wpList_store_ln (B := X) (x0 := 0) (q := 0) HX1.out ?_ ?_ ?_); rfl; rfl; rw [HW2.out])
  refine hn0.mono ?_
  rintro e w3 ⟨rfl, hz, hc⟩
  have HZ3 := Lib.hid hz
  have hx3 := (hc.block X (block_lt HX2.out) (by have := HBX.out; omega)).trans HX2.out
  have HX3 := Lib.hid hx3
  have HO3 := Lib.hid (row_keep HO2.out hc fun b hb hk => by have := (HOL.out.lt b hb).1; omega)
  have HC3 := Lib.hid (HC2.out.trans hc fun _ _ h => h)
  have HXL : Hid (∀ b, u3.ownBlock = some b → w.heap.size ≤ b ∧ b < X) := Lib.hid fun b hb => by have h1 := HOL.out.lt b hb; have := HXE.out; omega
  clear hz hc hn0 hx3
  have c0 := block_cell (j := 0) HX3.out rfl
  have f0 := block_free 0 HX3.out
  go_upto_region 8 with (fail)
  have hx4 : (w3.setCell ⟨X, 0, none⟩ (.int .u8 ((R0.2 : Nat) : Int))).heap[X]? = some (.cells #[.int .u8 ((R0.2 : Nat) : Int), .int .i64 0] 234 (0, 0)) := block_put 0 _ HX3.out
  have hs4 : Chg (fun k => k = X) w3 (w3.setCell ⟨X, 0, none⟩ (.int .u8 ((R0.2 : Nat) : Int))) := (Chg.refl _ _).setCell ⟨X, 0, none⟩ _ fun _ => rfl
  have HX4 := Lib.hid hx4
  have HZ4 := Lib.hid (HZ3.out.chg hs4 fun k hk => by have := HBX.out; omega)
  have HO4 := Lib.hid (row_keep HO3.out hs4 fun b hb hk => by have := (HXL.out b hb).2; omega)
  have HC4 := Lib.hid (HC3.out.trans hs4 fun k hk1 hk2 => by have := HNX.out; omega)
  clear hx4 hs4 c0 f0 HX3 HO3 HC3 HZ3
  generalize w3.setCell ⟨X, 0, none⟩ (.int .u8 ((R0.2 : Nat) : Int)) = w4 at *
  have hn1 := pgint_any HZ4.out
  have hr1 := num8_lt HZ4.out
  obtain ⟨R1, hR1⟩ : ∃ R, numR R0.1 8 = R := ⟨_, rfl⟩
  rw [hR1] at hn1 hr1
  rw [sgn_wrap _ hr1] at hn1
  have HR1 := Lib.hid hR1
  clear hR1 hr1
  go_wp2_with fail
  refine hn1.mono ?_
  rintro e w5 ⟨rfl, hz, hc⟩
  have HZ5 := Lib.hid hz
  have HX5 := Lib.hid ((hc.block X (block_lt HX4.out) (by have := HBX.out; omega)).trans HX4.out)
  have HO5 := Lib.hid (row_keep HO4.out hc fun b hb hk => by have := (HXL.out b hb).1; omega)
  have HC5 := Lib.hid (HC4.out.trans hc fun _ _ h => h)
  clear hz hc hn1 HX4 HO4 HC4 HZ4
  have c0 := block_cell (j := 1) HX5.out rfl
  have f0 := block_free 1 HX5.out
  go_upto_region 9 with (fail)
  have hx6 : (w5.setCell ⟨X, 1, none⟩ (.int .i64 (sgn R1.2))).heap[X]? = some (.cells #[.int .u8 ((R0.2 : Nat) : Int), .int .i64 (sgn R1.2)] 234 (0, 0)) := block_put 1 _ HX5.out
  have hs6 : Chg (fun k => k = X) w5 (w5.setCell ⟨X, 1, none⟩ (.int .i64 (sgn R1.2))) := (Chg.refl _ _).setCell ⟨X, 1, none⟩ _ fun _ => rfl
  have HX6 := Lib.hid hx6
  have HZ6 := Lib.hid (HZ5.out.chg hs6 fun k hk => by have := HBX.out; omega)
  have HO6 := Lib.hid (row_keep HO5.out hs6 fun b hb hk => by have := (HXL.out b hb).2; omega)
  have HC6 := Lib.hid (HC5.out.trans hs6 fun k hk1 hk2 => by have := HNX.out; omega)
  clear hx6 hs6 c0 f0 HX5 HO5 HC5 HZ5
  generalize w5.setCell ⟨X, 1, none⟩ (.int .i64 (sgn R1.2)) = w6 at *
  have c0 := block_cell (j := 0) HX6.out rfl
  have c1 := block_cell (j := 1) HX6.out rfl
  obtain ⟨x, hx⟩ : ∃ x : Ln, (((R0.2 : Nat) : Int), sgn R1.2) = x := ⟨_, rfl⟩
  have HLR : Hid (lineR Sj = (R1.1, x)) := Lib.hid (by unfold lineR; rw [HR0.out, HR1.out, hx])
  have e0 : ((R0.2 : Nat) : Int) = x.1 := by rw [← hx]
  have e1 : sgn R1.2 = x.2 := by rw [← hx]
  rw [e0] at c0
  rw [e1] at c1
  clear hx e0 e1
  have hba : Below w6.heap.size w6 (w6.alloc (.cells #[.int .u8 x.1, .int .i64 x.2] 234)) := (Below.refl _ _).alloc (Nat.le_refl _) _
  have HZ7 := Lib.hid (HZ6.out.later hba)
  have HO7 := Lib.hid (HO6.out.alloc (.cells #[.int .u8 x.1, .int .i64 x.2] 234))
  have HC7 := Lib.hid (HC6.out.trans (Chg.of_below (S := fun k => k = B) hba) fun _ _ h => h)
  clear hba
  go_wp2_with (at_builtin; refine wpList_append_vals (k := 2) (by decide) Tryz.underlying46 info_ln rfl (by omega) rfl _ _ rfl u3 j (flatG lc Lj) rfl HO7.out (some ⟨w6.heap.size, 0, none⟩) 1 1 (flatG lc [x]) rfl rfl (fun h => by cases h) (line_news w6 x) (flatG_all lc_one _) (by omega) ?_; intro p8 c8 w8 g1 g2 g3)
  have hbase : ∀ b, (Value.slice p8 (j + 1) c8).ownBlock = some b → w.heap.size ≤ b := fun b hb => by
   rcases g3 b hb with hk | hk
   · exact (HXL.out b hk).1
   · have := HC7.out.size; omega
  rw [← flatG_append] at g1
  have HO8 := Lib.hid (own_since g1 hbase)
  have HZ8 := Lib.hid (HZ7.out.chg g2 fun b hb => by have := (HXL.out b hb).1; omega)
  have HC8 := Lib.hid (HC7.out.trans g2 fun b hb1 hb2 => by have := (HXL.out b hb2).1; omega)
  clear g1 g2 g3 hbase c0 c1
  go_roundw
  case rel => exact ⟨j + 1, by omega, by go_num, Lib.hid (by rw [HST.out, HLR.out]; exact HZ8.out), Lib.hid (by rw [HST.out, HLR.out]; exact HO8.out), HC8⟩
  case measure => simp [Go.RowKit.intOf]; omega
theorem refR_eq {Bs : List Nat} {R0 R1 R2 : St × Nat} {R3 : St × List Ln} {S1 S4 : St} {nc : Nat} {R5 : St × List Ln} {R6 R7 R8 R9 : St × Nat} (h0 : numR ((0, Bs) : St) 1 = R0) (h1 : numR R0.1 4 = R1) (h2 : numR R1.1 1 = R2) (h3 : rlistR lineR 3 R2.1 = R3) (hc : countR R3.1 12 = (S1, nc)) (h4 : (manyR tkR nc S1).1 = S4) (h5 : rlistR lineR 3 S4 = R5) (h6 : numR R5.1 1 = R6) (h7 : numR R6.1 1 = R7) (h8 : numR R7.1 1 = R8) (h9 : numR R8.1 8 = R9) :
 refR Bs = (R9.1, ⟨(R0.2 : Nat), (R1.2 : Nat), (R2.2 : Nat), R3.2, (manyR tkR nc S1).2, R5.2, (R6.2 : Nat), (R7.2 : Nat), (R8.2 : Nat), sgn R9.2⟩) := by
 have ht : rlistR tkR 12 R3.1 = manyR tkR nc S1 := by
  have hc' : cntR R3.1 12 = (S1, nc) := hc
  unfold rlistR
  rw [hc']
 unfold refR
 dsimp only
 rw [h0, h1, h2, h3, ht, h4, h5, h6, h7, h8, h9]
theorem zero_back {R2 : St × Nat} {R3 : St × List Ln} {S1 S4 : St} {nc : Nat} {R5 : St × List Ln} {R6 R7 R8 R9 : St × Nat} (hc : countR R3.1 12 = (S1, nc)) (h4 : (manyR tkR nc S1).1 = S4) (h5 : rlistR lineR 3 S4 = R5) (h6 : numR R5.1 1 = R6) (h7 : numR R6.1 1 = R7) (h8 : numR R7.1 1 = R8) (h9 : numR R8.1 8 = R9) (hz : R9.1.1 = 0) :
 R3.1.1 = 0 ∧ S4.1 = 0 ∧ R5.1.1 = 0 := by
 have nb : ∀ {S : St} {size : Int} {Q : St × Nat}, numR S size = Q → 1 ≤ size ∧ size ≤ 8 → Q.1.1 = 0 → S.1 = 0 := by
  intro S size Q h hs hq
  by_cases h0 : S.1 = 0
  · exact h0
  · rw [numR_bad h0 hs] at h
    subst h
    exact absurd hq h0
 have z8 := nb h9 (by omega) hz
 have z7 := nb h8 (by omega) z8
 have z6 := nb h7 (by omega) z7
 have z5 := nb h6 (by omega) z6
 have z4 : S4.1 = 0 := by
  by_cases h0 : S4.1 = 0
  · exact h0
  · rw [rlistR_bad h0] at h5
    subst h5
    exact absurd z5 h0
 refine ⟨?_, z4, z5⟩
 by_cases h0 : R3.1.1 = 0
 · exact h0
 · have ht : rlistR tkR 12 R3.1 = manyR tkR nc S1 := by
    have hc' : cntR R3.1 12 = (S1, nc) := hc
    unfold rlistR
    rw [hc']
   rw [rlistR_bad h0] at ht
   rw [← ht] at h4
   subst h4
   exact absurd z4 h0
theorem dec_ok {Bs : List Nat} (hB : ∀ y ∈ Bs, y < 256) : Pgok (decR Bs).pg := by
 unfold decR
 dsimp only
 have c0 : By ((0, Bs) : St) := hB
 have c1 := numR_bytes c0 1
 have c2 := numR_bytes c1 4
 have c3 := numR_bytes c2 1
 have c4 := listR_by (f := lineR) (fun S h => lineR_by h) 3 c3
 have c5 := listR_by (f := tkR) (fun S h => tkR_by h) 12 c4
 have c6 := listR_by (f := lineR) (fun S h => lineR_by h) 3 c5
 have c7 := numR_bytes c6 1
 have c8 := numR_bytes c7 1
 have c9 := numR_bytes c8 1
 have o4 := listR_all (f := lineR) (Q := Lnok) (fun S h => lineR_by h) (fun S h => lineR_ok h) 3 c3
 have o5 := listR_all (f := tkR) (Q := Tkok) (fun S h => tkR_by h) (fun S h => tkR_ok h) 12 c4
 have o6 := listR_all (f := lineR) (Q := Lnok) (fun S h => lineR_by h) (fun S h => lineR_ok h) 3 c5
 have f1 := fit1 c0
 have f2 := fit4 c1
 have f3 := fit1 c2
 have f7 := fit1 c6
 have f8 := fit1 c7
 have f9 := fit1 c8
 have f10 := fit8 c9
 refine ⟨⟨?_, ?_⟩, ⟨?_, ?_⟩, ⟨?_, ?_⟩, o4, o5, o6, ⟨?_, ?_⟩, ⟨?_, ?_⟩, ⟨?_, ?_⟩, sgn_in f10⟩
 all_goals (dsimp only; omega)
theorem ref_ok {Bs : List Nat} (hB : ∀ y ∈ Bs, y < 256) (hz : (refR Bs).1.1 = 0) : Pgok (refR Bs).2 := by
 rcases ref_dec Bs with ⟨_, h2⟩ | ⟨_, h2⟩
 · rw [h2]; exact dec_ok hB
 · rw [hz] at h2; exact absurd h2 (by decide)
theorem num4_lt {w : World} {B : Nat} {p0 : Option Addr} {S : St} (h : Rr w B p0 S) : (numR S 4).2 < 4294967296 := by
 by_cases h0 : S.1 = 0
 · obtain ⟨p, n, c, _, hp⟩ := h.box
   exact numR_fit (hp h0).1.lt (n := 4) (by omega) (by omega)
 · rw [pgnum_bad h0 4 (by omega)]
   show 0 < 4294967296
   omega
structure Dq (W w : World) (R : Nat) (p0 : Option Addr) (S : St) (C : Array Value) : Prop where
 z : Rr w (R + 1) p0 S
 y : w.heap[R + 2]? = some (.cells C 49 (0, 0))
 r : w.heap[R]? = some (.cells zc 49 (0, 0))
 below : Below W.heap.size W w
 base : W.heap.size ≤ R
theorem Dq.low {W w w' : World} {R : Nat} {p0 : Option Addr} {S S' : St} {C : Array Value} (h : Dq W w R p0 S C) (hz : Rr w' (R + 1) p0 S') (hc : Chg (fun k => k = R + 1) w w') : Dq W w' R p0 S' C := by
 have hb := h.base
 exact ⟨hz, (hc.block (R + 2) (block_lt h.y) (by omega)).trans h.y, (hc.block R (block_lt h.r) (by omega)).trans h.r, Chg.below h.below h.below.size hc fun k hk => by omega, h.base⟩
theorem Dq.put {W w : World} {R : Nat} {p0 : Option Addr} {S : St} {C : Array Value} (h : Dq W w R p0 S C) (j : Nat) (v : Value) : Dq W (w.setCell ⟨R + 2, j, none⟩ v) R p0 S (C.setIfInBounds j v) := by
 have hb := h.base
 have hc : Chg (fun k => k = R + 2) w (w.setCell ⟨R + 2, j, none⟩ v) := (Chg.refl _ _).setCell ⟨R + 2, j, none⟩ _ fun _ => rfl
 exact ⟨h.z.chg hc fun k hk => by omega, block_put j v h.y, (hc.block R (block_lt h.r) (by omega)).trans h.r, Chg.below h.below h.below.size hc fun k hk => by omega, h.base⟩
theorem Dq.keep {W w w' : World} {R : Nat} {p0 : Option Addr} {S : St} {C : Array Value} (h : Dq W w R p0 S C) (hb : Below w.heap.size w w') : Dq W w' R p0 S C :=
 ⟨h.z.later hb, block_later h.y hb, block_later h.r hb, h.below.trans (hb.mono h.below.size), h.base⟩
theorem Dq.cy {W w : World} {R : Nat} {p0 : Option Addr} {S : St} {C : Array Value} (h : Dq W w R p0 S C) {j : Nat} {v : Value} (hj : C[j]? = some v) : w.cell? ⟨R + 2, j, none⟩ = some v ∧ w.frozen? ⟨R + 2, j, none⟩ = false := ⟨block_cell h.y hj, block_free j h.y⟩
theorem fq_low {α : Type} {enc : α → List Value} {k : Nat} {d : α} {w w' : World} {R : Nat} {p : Option Addr} {n c : Nat} {L : List α} (hf : Far (R + 2) p) (hl : SlG enc k d w p n c L) (hc : Chg (fun k => k = R + 1) w w') : SlG enc k d w' p n c L :=
 hl.turn hc.size fun _ a ha hlt => hc.block a.block hlt (by have := hf a ha; omega)
theorem rdec_start (p : Option Addr) (n c : Nat) (Bs : List Nat) (W : World) (hS : Sl W p n c Bs) (hc : c ≤ maxLen) : ∃ R w, R = W.heap.size ∧ ((W.alloc (.cells zc 49)).alloc (.cells #[.slice p n c, .int .i64 0] 162)).alloc (.cells zc 49) = w ∧ Dq W w R p (0, Bs) zc := by
 refine ⟨_, _, rfl, rfl, ?_⟩
 have b1 : Below W.heap.size W (W.alloc (.cells zc 49)) := (Below.refl _ _).alloc (Nat.le_refl _) _
 have b2 : Below W.heap.size W ((W.alloc (.cells zc 49)).alloc (.cells #[.slice p n c, .int .i64 0] 162)) := b1.alloc (by simp) _
 have b3 : Below W.heap.size W (((W.alloc (.cells zc 49)).alloc (.cells #[.slice p n c, .int .i64 0] 162)).alloc (.cells zc 49)) := b2.alloc (by simp; omega) _
 have k1 := alloc_block W (.cells zc 49)
 have k2 := alloc_block (W.alloc (.cells zc 49)) (.cells #[.slice p n c, .int .i64 0] 162)
 have k3 := alloc_block ((W.alloc (.cells zc 49)).alloc (.cells #[.slice p n c, .int .i64 0] 162)) (.cells zc 49)
 simp only [World.size_alloc] at k2 k3
 refine ⟨⟨⟨p, n, c, (Below.heap_alloc _ _ _ (by simp)).trans k2, fun _ => ⟨hS.later b3, From.refl _, hc⟩⟩, fun _ hne a ha => ?_⟩, k3, (Below.heap_alloc _ _ _ (by simp; omega)).trans ((Below.heap_alloc _ _ _ (by simp)).trans k1), b3, Nat.le_refl _⟩
 have hl := hS.len
 have h0 : 0 < n := by
  rcases Nat.eq_zero_or_pos n with h | h
  · exact absurd (List.eq_nil_of_length_eq_zero (by rw [h] at hl; exact hl)) hne
  · exact h
 obtain ⟨b, off, hp, hlt, _⟩ := hS.blk h0
 rw [hp] at ha
 cases ha
 show b < W.heap.size + 1
 omega
theorem Dq.row {W w : World} {R : Nat} {p0 : Option Addr} {S : St} {C : Array Value} (h : Dq W w R p0 S C) (C' : Array Value) : Dq W (w.setRow (R + 2) C') R p0 S C' := by
 have hb := h.base
 have hc : Chg (fun k => k = R + 2) w (w.setRow (R + 2) C') := ⟨rfl, rfl, rfl, by simp [World.setRow], fun k _ hn => setRow_other _ _ _ _ hn⟩
 exact ⟨h.z.chg hc fun k hk => by omega, setRow_heap _ _ _ _ _ _ h.y, (hc.block R (block_lt h.r) (by omega)).trans h.r, Chg.below h.below h.below.size hc fun k hk => by omega, h.base⟩
theorem rdec_start2 (p : Option Addr) (n c : Nat) (Bs : List Nat) (W : World) (hS : Sl W p n c Bs) (hc : c ≤ maxLen) : ∃ R w00 w0, W.heap.size = R ∧ (W.alloc (.cells zc 49)).alloc (.cells #[.slice p n c, .int .i64 0] 162) = w00 ∧ w00.heap.size = R + 2 ∧ (w00.alloc (.cells zc 49)).heap[R + 2]? = some (.cells zc 49 (0, 0)) ∧ (w00.alloc (.cells zc 49)).setRow (R + 2) zc = w0 ∧ Dq W w0 R p (0, Bs) zc := by
 obtain ⟨R, w, hR, hw, hD⟩ := rdec_start p n c Bs W hS hc
 subst hw hR
 exact ⟨_, _, _, rfl, rfl, by simp, hD.y, rfl, hD.row zc⟩
structure Tq (W y w : World) (R X : Nat) (p0 : Option Addr) (S : St) (C Cx : Array Value) (v : Value) (j : Nat) (Lj : List Tk) : Prop where
 d : Dq W w R p0 S C
 x : w.heap[X]? = some (.cells Cx 204 (0, 0))
 o : w.ownsRow 0 204 4 v j (flatG tkc Lj)
 c : Chg (fun k => k = R + 1 ∨ k = R + 2) y w
 xr : y.heap.size ≤ X ∧ R + 3 ≤ y.heap.size
 xo : ∀ b, v.ownBlock = some b → R + 3 ≤ b ∧ b < X
theorem Tq.low {W y w w' : World} {R X : Nat} {p0 : Option Addr} {S S' : St} {C Cx : Array Value} {v : Value} {j : Nat} {Lj : List Tk} (h : Tq W y w R X p0 S C Cx v j Lj) (hz : Rr w' (R + 1) p0 S') (hc : Chg (fun k => k = R + 1) w w') : Tq W y w' R X p0 S' C Cx v j Lj := by
 have hx := h.xr
 exact ⟨h.d.low hz hc, (hc.block X (block_lt h.x) (by omega)).trans h.x, row_keep h.o hc fun b hb hk => by have := h.xo b hb; omega, h.c.trans hc fun k _ hk => .inl hk, h.xr, h.xo⟩
theorem Tq.put {W y w : World} {R X : Nat} {p0 : Option Addr} {S : St} {C Cx : Array Value} {v : Value} {j : Nat} {Lj : List Tk} (h : Tq W y w R X p0 S C Cx v j Lj) (i : Nat) (u : Value) : Tq W y (w.setCell ⟨X, i, none⟩ u) R X p0 S C (Cx.setIfInBounds i u) v j Lj := by
 have hx := h.xr
 have hb := h.d.base
 have hc : Chg (fun k => k = X) w (w.setCell ⟨X, i, none⟩ u) := (Chg.refl _ _).setCell ⟨X, i, none⟩ _ fun _ => rfl
 refine ⟨⟨h.d.z.chg hc fun k hk => by omega, (hc.block (R + 2) (block_lt h.d.y) (by omega)).trans h.d.y, (hc.block R (block_lt h.d.r) (by omega)).trans h.d.r, Chg.below h.d.below h.d.below.size hc fun k hk => by omega, h.d.base⟩, block_put i u h.x, row_keep h.o hc fun b hb hk => by have := h.xo b hb; omega, h.c.trans hc fun k hk1 hk2 => by omega, h.xr, h.xo⟩
theorem Tq.cx {W y w : World} {R X : Nat} {p0 : Option Addr} {S : St} {C Cx : Array Value} {v : Value} {j : Nat} {Lj : List Tk} (h : Tq W y w R X p0 S C Cx v j Lj) {i : Nat} {u : Value} (hj : Cx[i]? = some u) : w.cell? ⟨X, i, none⟩ = some u ∧ w.frozen? ⟨X, i, none⟩ = false := ⟨block_cell h.x hj, block_free i h.x⟩
theorem Dq.far {W w w' : World} {R : Nat} {p0 : Option Addr} {S : St} {C : Array Value} {T : Nat → Prop} (h : Dq W w R p0 S C) (hc : Chg T w w') (hT : ∀ k, T k → R + 3 ≤ k) : Dq W w' R p0 S C := by
 have hb := h.base
 exact ⟨h.z.chg hc fun k hk => by have := hT k hk; omega, (hc.block (R + 2) (block_lt h.y) fun hk => by have := hT _ hk; omega).trans h.y, (hc.block R (block_lt h.r) fun hk => by have := hT _ hk; omega).trans h.r, Chg.below h.below h.below.size hc fun k hk => by have := hT k hk; omega, h.base⟩
theorem pq_low {w w' : World} {R : Nat} {lp : Option Addr} {ln lcp : Nat} {L : List Ln} {tp : Option Addr} {tn tcp : Nat} {T : List Tk} {wp : Option Addr} {wn wcp : Nat} {M : List Ln} (h : PgM w lp ln lcp L tp tn tcp T wp wn wcp M) (f : Far (R + 2) lp ∧ Far (R + 2) tp ∧ Far (R + 2) wp) (hc : Chg (fun k => k = R + 1) w w') : PgM w' lp ln lcp L tp tn tcp T wp wn wcp M := ⟨fq_low f.1 h.l hc, fq_low f.2.1 h.t hc, fq_low f.2.2 h.o hc⟩
theorem pq_put {w : World} {R : Nat} {lp : Option Addr} {ln lcp : Nat} {L : List Ln} {tp : Option Addr} {tn tcp : Nat} {T : List Tk} {wp : Option Addr} {wn wcp : Nat} {M : List Ln} (h : PgM w lp ln lcp L tp tn tcp T wp wn wcp M) (f : Far (R + 2) lp ∧ Far (R + 2) tp ∧ Far (R + 2) wp) (j : Nat) (v : Value) : PgM (w.setCell ⟨R + 2, j, none⟩ v) lp ln lcp L tp tn tcp T wp wn wcp M := ⟨far_put f.1 h.l j v, far_put f.2.1 h.t j v, far_put f.2.2 h.o j v⟩
set_option maxHeartbeats 16000000 in
theorem rdecode2 (p : Option Addr) (n c : Nat) (Bs : List Nat) (W : World) (hw : Words W) (hS : Sl W p n c Bs) (hcm : c ≤ maxLen) :
 Calls Tryz.prog 144 #[.slice p n c] W (GivesD2 W (rdecP Bs)) := by
 obtain ⟨R, w00, w0, hR, hw00, hs00, hx00, hw0, hD⟩ := rdec_start2 p n c Bs W hS hcm
 have HW00 := Lib.hid hw00
 have HS00 := Lib.hid hs00
 have HX00 := Lib.hid hx00
 have HW0 := Lib.hid hw0
 have HD0 := Lib.hid hD
 have HRE := Lib.hid hR
 have HBY : Hid (∀ y ∈ Bs, y < 256) := Lib.hid hS.lt
 have HWD := Lib.hid hw
 clear hw00 hs00 hx00 hw0 hD hR hw hS hcm
 go_enter Tryz.func144, Tryz.ntmps144
 go_upto_region 2 with (fail)
 rw [HW00.out, HRE.out]
 obtain ⟨R0, hR0⟩ : ∃ R, numR ((0, Bs) : St) 1 = R := ⟨_, rfl⟩
 have hn := pgnum_any HD0.out.z 1 (by omega)
 have hf := byte_lt HD0.out.z
 rw [hR0] at hn hf
 have hx0 : IntKind.u8.wrap ((R0.2 : Nat) : Int) = (R0.2 : Nat) := by simp [IntKind.wrap, IntKind.bits, IntKind.signed]; omega
 have HFT0 := Lib.hid hf
 have HR0 := Lib.hid hR0
 clear hf hR0
 go_wp2_with ((try rw [HS00.out]); (with_reducible refine wpList_store_pg 0 0 0 none 0 0 none 0 0 none 0 0 0 0 0 0 HX00.out ?_ ?_ ?_); rfl; rfl; rw [HW0.out])
 refine hn.mono ?_
 rintro e y0 ⟨rfl, hz, hc⟩
 have HDb := Lib.hid (HD0.out.low hz hc)
 clear hz hc hn
 obtain ⟨cy, cf⟩ := HDb.out.cy (j := 0) rfl
 go_upto_region 4 with (fail)
 clear cy cf
 have hd := HDb.out.put 0 (.int .u8 ((R0.2 : Nat) : Int))
 simp only [List.setIfInBounds_toArray, List.set_cons_zero, List.set_cons_succ] at hd
 generalize y0.setCell ⟨R + 2, 0, none⟩ (.int .u8 ((R0.2 : Nat) : Int)) = z0 at *
 have HD1 := Lib.hid hd
 clear hd HDb HD0
 obtain ⟨R1, hR1⟩ : ∃ R, numR R0.1 4 = R := ⟨_, rfl⟩
 have hn := pgnum_any HD1.out.z 4 (by omega)
 have hf := num4_lt HD1.out.z
 rw [hR1] at hn hf
 have hx1 : IntKind.u32.wrap ((R1.2 : Nat) : Int) = (R1.2 : Nat) := by simp [IntKind.wrap, IntKind.bits, IntKind.signed]; omega
 have HFT1 := Lib.hid hf
 have HR1 := Lib.hid hR1
 clear hf hR1
 go_wp2_with fail
 refine hn.mono ?_
 rintro e y1 ⟨rfl, hz, hc⟩
 have HDb := Lib.hid (HD1.out.low hz hc)
 clear hz hc hn
 obtain ⟨cy, cf⟩ := HDb.out.cy (j := 1) rfl
 go_upto_region 5 with (fail)
 clear cy cf
 have hd := HDb.out.put 1 (.int .u32 ((R1.2 : Nat) : Int))
 simp only [List.setIfInBounds_toArray, List.set_cons_zero, List.set_cons_succ] at hd
 generalize y1.setCell ⟨R + 2, 1, none⟩ (.int .u32 ((R1.2 : Nat) : Int)) = z1 at *
 have HD2 := Lib.hid hd
 clear hd HDb HD1
 obtain ⟨R2, hR2⟩ : ∃ R, numR R1.1 1 = R := ⟨_, rfl⟩
 have hn := pgnum_any HD2.out.z 1 (by omega)
 have hf := byte_lt HD2.out.z
 rw [hR2] at hn hf
 have hx2 : IntKind.u8.wrap ((R2.2 : Nat) : Int) = (R2.2 : Nat) := by simp [IntKind.wrap, IntKind.bits, IntKind.signed]; omega
 have HFT2 := Lib.hid hf
 have HR2 := Lib.hid hR2
 clear hf hR2
 go_wp2_with fail
 refine hn.mono ?_
 rintro e y2 ⟨rfl, hz, hc⟩
 have HDb := Lib.hid (HD2.out.low hz hc)
 clear hz hc hn
 obtain ⟨cy, cf⟩ := HDb.out.cy (j := 2) rfl
 go_upto_region 6 with (fail)
 clear cy cf
 have hd := HDb.out.put 2 (.int .u8 ((R2.2 : Nat) : Int))
 simp only [List.setIfInBounds_toArray, List.set_cons_zero, List.set_cons_succ] at hd
 generalize y2.setCell ⟨R + 2, 2, none⟩ (.int .u8 ((R2.2 : Nat) : Int)) = z2 at *
 have HD3 := Lib.hid hd
 clear hd HDb HD2
 have hn := rdlines_any HD3.out.z
 obtain ⟨R3, hR3⟩ : ∃ R, rlistR lineR 3 R2.1 = R := ⟨_, rfl⟩
 rw [hR3] at hn
 have HR3 := Lib.hid hR3
 have HY3 := Lib.hid (block_lt HD3.out.y)
 clear hR3
 go_wp2_with fail
 refine hn.mono ?_
 rintro e y3 ⟨pl, nl, cl, Ll, rfl, hl, hfar, hnl, hz, hc, heq⟩
 have HFl : Hid (Far (R + 2) pl) := Lib.hid fun a ha => by have := hfar a ha; have := HY3.out; omega
 have HDb := Lib.hid (HD3.out.low hz hc)
 have HNl := Lib.hid hnl
 have HEl := Lib.hid heq
 have HLlb := Lib.hid hl
 clear hz hc hn hfar hnl heq hl HY3
 obtain ⟨cy, cf⟩ := HDb.out.cy (j := 3) rfl
 go_upto_region 7 with (fail)
 clear cy cf
 have hd := HDb.out.put 3 (.slice pl nl cl)
 simp only [List.setIfInBounds_toArray, List.set_cons_zero, List.set_cons_succ] at hd
 have HLlc := Lib.hid (far_put HFl.out HLlb.out 3 (.slice pl nl cl))
 generalize y3.setCell ⟨R + 2, 3, none⟩ (.slice pl nl cl) = z3 at *
 have HD4 := Lib.hid hd
 have HLl := HLlc
 clear hd HDb HD3 HLlb HLlc
 have hn := pgcount_any HD4.out.z 12 (by omega)
 rw [show (((12 : Nat) : Int)) = 12 from rfl] at hn
 have hle := countR_le R3.1 12
 obtain ⟨Rc, hRc⟩ : ∃ R, countR R3.1 12 = R := ⟨_, rfl⟩
 rw [hRc] at hn hle
 have HRc := Lib.hid hRc
 clear hRc
 go_wp2_with fail
 refine hn.mono ?_
 rintro e y4 ⟨rfl, hz, hc⟩
 have HD5 := Lib.hid (HD4.out.low hz hc)
 have HLl5 := Lib.hid (fq_low HFl.out HLl.out hc)
 clear hz hc hn HD4 HLl
 go_wp2_with fail
 obtain ⟨S1, nc⟩ := Rc
 dsimp only at HD5 hle ⊢
 have HYS : Hid (R + 3 ≤ y4.heap.size) := Lib.hid (by have := block_lt HD5.out.y; omega)
 go_loopw [7] (fun i wr => ∃ (j : Nat) (v : Value), j ≤ nc ∧ i = .int .i64 j ∧ Hid (Dq W wr R p (manyR tkR j S1).1 #[.int .u8 ((R0.2 : Nat) : Int), .int .u32 ((R1.2 : Nat) : Int), .int .u8 ((R2.2 : Nat) : Int), .slice pl nl cl, v, .slice none 0 0, .int .u8 0, .int .u8 0, .int .u8 0, .int .i64 0]) ∧ Hid (wr.ownsRow 0 204 4 v j (flatG tkc (manyR tkR j S1).2)) ∧ Hid (Chg (fun k => k = R + 1 ∨ k = R + 2) y4 wr) ∧ Hid (∀ b, v.ownBlock = some b → y4.heap.size ≤ b)) (fun i _ => nc - (Go.RowKit.intOf i).toNat)
 case atStart => exact ⟨0, .slice none 0 0, Nat.zero_le _, rfl, HD5, Lib.hid (World.ownsRow_nil _ _ _ _), Lib.hid (Chg.refl _ _), Lib.hid fun b hb => by simp [Value.ownBlock] at hb⟩
 case round =>
  obtain ⟨j, v, hj, rfl, HDj, HOj, HCj, HBj⟩ := hrel
  have x1 := HDj.out.z.err
  by_cases hgo : j < nc ∧ (manyR tkR j S1).1.1 = 0
  case neg =>
   have hfin : (manyR tkR nc S1).1 = (manyR tkR j S1).1 ∧ ((manyR tkR j S1).1.1 = 0 → manyR tkR nc S1 = manyR tkR j S1) := by
    by_cases hlt : j < nc
    · have he : (manyR tkR j S1).1.1 ≠ 0 := fun h => hgo ⟨hlt, h⟩
      obtain ⟨kk, rfl⟩ : ∃ kk, nc = j + kk := ⟨nc - j, by omega⟩
      exact ⟨manyR_stop (f := tkR) (fun S h => tkR_bad h) S1 he kk, fun h => absurd h he⟩
    · obtain rfl : nc = j := by omega
      exact ⟨rfl, fun _ => rfl⟩
   by_cases hlt : j < nc
   · have hlt' : (j : Int) < nc := by omega
     have de : ((manyR tkR j S1).1.1 == 0) = false := by
      have he : (manyR tkR j S1).1.1 ≠ 0 := fun h => hgo ⟨hlt, h⟩
      simpa using he
     obtain ⟨pt, ct, hv, htl, htp⟩ := SlG.of_own (d := tk0) tkc_len (by decide) HOj.out
     subst hv
     have HTl := Lib.hid htl
     have HFt : Hid (Far (R + 2) pt) := Lib.hid fun a ha => by have := HBj.out a.block (by rw [ha]; rfl); have := HYS.out; omega
     have HLl6 := Lib.hid (HLl5.out.turn HCj.out.size fun _ a ha hlt => HCj.out.block a.block hlt (by have := HFl.out a ha; omega))
     have hmlt := manyR_len (f := tkR) S1 j
     have HML := Lib.hid hmlt
     have HFN := Lib.hid hfin
     clear htl htp hmlt hfin HLl5 HOj HCj HBj
     generalize manyR tkR j S1 = Mj at *
     obtain ⟨S4, Lt⟩ := Mj
     dsimp only at HDj HTl HML HFN x1
     have HD6 := Lib.hid HDj.out
     clear HDj
     have hn := rdlines_any HD6.out.z
     obtain ⟨R5, hR5⟩ : ∃ R, rlistR lineR 3 S4 = R := ⟨_, rfl⟩
     rw [hR5] at hn
     have HR5 := Lib.hid hR5
     have HY6 := Lib.hid (block_lt HD6.out.y)
     clear hR5
     go_wp2_with fail
     refine hn.mono ?_
     rintro e y5 ⟨po, no, co, Lo, rfl, hl, hfar, hno, hz, hc, heq⟩
     have HFF : Hid (Far (R + 2) pl ∧ Far (R + 2) pt ∧ Far (R + 2) po) := Lib.hid ⟨HFl.out, HFt.out, fun a ha => by have := hfar a ha; have := HY6.out; omega⟩
     have HPb := Lib.hid (PgM.mk (fq_low HFl.out HLl6.out hc) (fq_low HFt.out HTl.out hc) hl)
     have HDb := Lib.hid (HD6.out.low hz hc)
     have HNo := Lib.hid hno
     have HEo := Lib.hid heq
     clear hz hc hn hfar hno heq hl HY6 x1
     obtain ⟨cy, cf⟩ := HDb.out.cy (j := 5) rfl
     go_upto_region 18 with (fail)
     clear cy cf
     have hd := HDb.out.put 5 (.slice po no co)
     simp only [List.setIfInBounds_toArray, List.set_cons_zero, List.set_cons_succ] at hd
     have HP6 := Lib.hid (pq_put HPb.out HFF.out 5 (.slice po no co))
     generalize y5.setCell ⟨R + 2, 5, none⟩ (.slice po no co) = z5 at *
     clear HD6
     have HD6 := Lib.hid hd
     clear hd HDb HPb HLl6 HTl
     obtain ⟨R6, hR6⟩ : ∃ R, numR R5.1 1 = R := ⟨_, rfl⟩
     have hn := pgnum_any HD6.out.z 1 (by omega)
     have hf := byte_lt HD6.out.z
     rw [hR6] at hn hf
     have hx6 : IntKind.u8.wrap ((R6.2 : Nat) : Int) = (R6.2 : Nat) := by simp [IntKind.wrap, IntKind.bits, IntKind.signed]; omega
     have HFT6 := Lib.hid hf
     have HR6 := Lib.hid hR6
     clear hf hR6
     go_wp2_with fail
     refine hn.mono ?_
     rintro e y6 ⟨rfl, hz, hc⟩
     have HDb := Lib.hid (HD6.out.low hz hc)
     have HPb := Lib.hid (pq_low HP6.out HFF.out hc)
     clear hz hc hn
     obtain ⟨cy, cf⟩ := HDb.out.cy (j := 6) rfl
     go_upto_region 19 with (fail)
     clear cy cf
     have hd := HDb.out.put 6 (.int .u8 ((R6.2 : Nat) : Int))
     simp only [List.setIfInBounds_toArray, List.set_cons_zero, List.set_cons_succ] at hd
     have HP7 := Lib.hid (pq_put HPb.out HFF.out 6 (.int .u8 ((R6.2 : Nat) : Int)))
     generalize y6.setCell ⟨R + 2, 6, none⟩ (.int .u8 ((R6.2 : Nat) : Int)) = z6 at *
     have HD7 := Lib.hid hd
     clear hd HDb HD6 HPb HP6
     obtain ⟨R7, hR7⟩ : ∃ R, numR R6.1 1 = R := ⟨_, rfl⟩
     have hn := pgnum_any HD7.out.z 1 (by omega)
     have hf := byte_lt HD7.out.z
     rw [hR7] at hn hf
     have hx7 : IntKind.u8.wrap ((R7.2 : Nat) : Int) = (R7.2 : Nat) := by simp [IntKind.wrap, IntKind.bits, IntKind.signed]; omega
     have HFT7 := Lib.hid hf
     have HR7 := Lib.hid hR7
     clear hf hR7
     go_wp2_with fail
     refine hn.mono ?_
     rintro e y7 ⟨rfl, hz, hc⟩
     have HDb := Lib.hid (HD7.out.low hz hc)
     have HPb := Lib.hid (pq_low HP7.out HFF.out hc)
     clear hz hc hn
     obtain ⟨cy, cf⟩ := HDb.out.cy (j := 7) rfl
     go_upto_region 20 with (fail)
     clear cy cf
     have hd := HDb.out.put 7 (.int .u8 ((R7.2 : Nat) : Int))
     simp only [List.setIfInBounds_toArray, List.set_cons_zero, List.set_cons_succ] at hd
     have HP8 := Lib.hid (pq_put HPb.out HFF.out 7 (.int .u8 ((R7.2 : Nat) : Int)))
     generalize y7.setCell ⟨R + 2, 7, none⟩ (.int .u8 ((R7.2 : Nat) : Int)) = z7 at *
     have HD8 := Lib.hid hd
     clear hd HDb HD7 HPb HP7
     obtain ⟨R8, hR8⟩ : ∃ R, numR R7.1 1 = R := ⟨_, rfl⟩
     have hn := pgnum_any HD8.out.z 1 (by omega)
     have hf := byte_lt HD8.out.z
     rw [hR8] at hn hf
     have hx8 : IntKind.u8.wrap ((R8.2 : Nat) : Int) = (R8.2 : Nat) := by simp [IntKind.wrap, IntKind.bits, IntKind.signed]; omega
     have HFT8 := Lib.hid hf
     have HR8 := Lib.hid hR8
     clear hf hR8
     go_wp2_with fail
     refine hn.mono ?_
     rintro e y8 ⟨rfl, hz, hc⟩
     have HDb := Lib.hid (HD8.out.low hz hc)
     have HPb := Lib.hid (pq_low HP8.out HFF.out hc)
     clear hz hc hn
     obtain ⟨cy, cf⟩ := HDb.out.cy (j := 8) rfl
     go_upto_region 21 with (fail)
     clear cy cf
     have hd := HDb.out.put 8 (.int .u8 ((R8.2 : Nat) : Int))
     simp only [List.setIfInBounds_toArray, List.set_cons_zero, List.set_cons_succ] at hd
     have HP9 := Lib.hid (pq_put HPb.out HFF.out 8 (.int .u8 ((R8.2 : Nat) : Int)))
     generalize y8.setCell ⟨R + 2, 8, none⟩ (.int .u8 ((R8.2 : Nat) : Int)) = z8 at *
     have HD9 := Lib.hid hd
     clear hd HDb HD8 HPb HP8
     obtain ⟨R9, hR9⟩ : ∃ Q, numR R8.1 8 = Q := ⟨_, rfl⟩
     have hn := pgint_any HD9.out.z
     have hf := num8_lt HD9.out.z
     rw [hR9] at hn hf
     rw [sgn_wrap _ hf] at hn
     have HR9 := Lib.hid hR9
     have HFT9 := Lib.hid hf
     clear hf hR9
     go_wp2_with fail
     refine hn.mono ?_
     rintro e y9 ⟨rfl, hz, hc⟩
     have HDb := Lib.hid (HD9.out.low hz hc)
     have HPb := Lib.hid (pq_low HP9.out HFF.out hc)
     clear hz hc hn
     obtain ⟨cy, cf⟩ := HDb.out.cy (j := 9) rfl
     go_upto_region 22 with (fail)
     clear cy cf
     have hd := HDb.out.put 9 (.int .i64 (sgn R9.2))
     simp only [List.setIfInBounds_toArray, List.set_cons_zero, List.set_cons_succ] at hd
     have HPf := Lib.hid (pq_put HPb.out HFF.out 9 (.int .i64 (sgn R9.2)))
     generalize y9.setCell ⟨R + 2, 9, none⟩ (.int .i64 (sgn R9.2)) = z9 at *
     have HDf := Lib.hid hd
     clear hd HDb HD9 HPb HP9
     have x1 := HDf.out.z.err
     by_cases he9 : R9.1.1 = 0
     case neg =>
      have d9 : (R9.1.1 != 0) = true := by simpa using he9
      have hq9 : Hid (R9.1.1 ≠ 0) := Lib.hid he9
      obtain ⟨pr, nr, cr, hbx, hpr⟩ := HDf.out.z.box
      have HDd := Lib.hid (HDf.out.keep (show Below z9.heap.size z9 z9.drew from (Below.refl _ _).drew))
      have HBX : Hid (z9.drew.heap[R + 1]? = some (.cells #[.slice pr nr cr, .int .i64 R9.1.1] 162 (0, 0))) := Lib.hid hbx
      clear he9 hbx hpr
      have HRF := Lib.hid (setRow_heap z9.drew R _ zc _ _ HDd.out.r)
      have HG : Hid (GivesD2 W (rdecP Bs) (.returned (.tuple #[.agg zc, .int .i64 R9.1.1])) (z9.drew.setRow R zc)) := Lib.hid (by
       have hp : rdecP Bs = (R9.1.1, noP) := by
        unfold rdecP
        rw [refR_eq HR0.out HR1.out HR2.out HR3.out HRc.out HFN.out.1 HR5.out HR6.out HR7.out HR8.out HR9.out]
        dsimp only
        rw [if_pos hq9.out]
       rw [hp]
       exact ⟨none, 0, none, 0, none, 0, rfl, ⟨SlG.empty _, SlG.empty _, SlG.empty _⟩, below_setRow HDd.out.below HDd.out.base zc, (fun a h => by cases h), (fun a h => by cases h), (fun a h => by cases h)⟩)
      go_wp2_with fail
      refine wp_region_held_drew (S := fun w' => Hid (w'.heap[R + 1]? = some (.cells #[.slice pr nr cr, .int .i64 R9.1.1] 162 (0, 0)))) (by kernel_rfl) HBX (fun hHeld => ?_)
      refine wpAnyH_take (i := 0) (oi := ⟨some 87, _, _, _, _, _⟩) (v := .agg zc) rfl (by kernel_rfl) (by kernel_rfl) (by kernel_rfl) (fun _ _ _ h => h) (Or.inl ⟨by rfl, fun w' hw' => ?_⟩) (by assumption) ?_
      · clear hHeld
        go_simp
      simp only [Act.put, List.setIfInBounds_toArray, List.set_cons_zero, List.set_cons_succ]
      refine wpAnyH_take (i := 1) (oi := ⟨some 88, _, _, _, _, _⟩) (v := .pointer (some ⟨R + 1, 0, none⟩)) rfl (by kernel_rfl) (by kernel_rfl) (by kernel_rfl) (fun _ _ _ h => h) (Or.inl ⟨by rfl, fun w' hw' => ?_⟩) (by assumption) ?_
      · clear hHeld
        go_simp
      simp only [Act.put, List.setIfInBounds_toArray, List.set_cons_zero, List.set_cons_succ]
      refine wpAnyH_take (i := 2) (oi := ⟨some 89, _, _, _, _, _⟩) (v := .pointer (some ⟨R + 1, 0, none⟩)) rfl (by kernel_rfl) (by kernel_rfl) (by kernel_rfl) (fun _ _ _ h => h) (Or.inl ⟨by rfl, fun w' hw' => ?_⟩) (by assumption) ?_
      · clear hHeld
        go_simp
      simp only [Act.put, List.setIfInBounds_toArray, List.set_cons_zero, List.set_cons_succ]
      refine wpAnyH_take (i := 3) (oi := ⟨some 90, _, _, _, _, _⟩) (v := .pointer (some ⟨R + 1, 1, none⟩)) rfl (by kernel_rfl) (by kernel_rfl) (by kernel_rfl) (fun _ _ _ h => h) (Or.inl ⟨by rfl, fun w' hw' => ?_⟩) (by assumption) ?_
      · clear hHeld
        go_simp
      simp only [Act.put, List.setIfInBounds_toArray, List.set_cons_zero, List.set_cons_succ]
      refine wpAnyH_take (i := 4) (oi := ⟨some 91, _, _, _, _, _⟩) (v := .int .i64 R9.1.1) rfl (by kernel_rfl) (by kernel_rfl) (by kernel_rfl) (fun _ _ _ h => h) (Or.inl ⟨by rfl, fun w' hw' => ?_⟩) (by assumption) ?_
      · have g1 := block_cell (j := 1) (v := .int .i64 R9.1.1) hw'.out rfl
        clear hHeld
        go_simp
      simp only [Act.put, List.setIfInBounds_toArray, List.set_cons_zero, List.set_cons_succ]
      generalize z9.drew = Wd at *
      refine wpAnyH_ready (rs := [5]) (by kernel_rfl) (by simp) (AllReadyH.cons rfl (fun K hK => ?_) AllReadyH.nil)
      rw [if_pos (by rfl)]
      refine wp_store_row 49 _ _ rfl R zc rfl rfl 49 _ HDd.out.r (by kernel_rfl) rfl (by kernel_rfl) ?_
      have HB2 : Hid ((Wd.setRow R zc).heap[R + 1]? = some (.cells #[.slice pr nr cr, .int .i64 R9.1.1] 162 (0, 0))) := Lib.hid ((setRow_other _ _ _ _ (by omega)).trans HBX.out)
      refine hK.out _ _ HB2 (fun hHeld2 => ?_)
      clear hK K hHeld
      have hHeld := hHeld2
      clear hHeld2
      (try simp only [Act.put, List.setIfInBounds_toArray, List.set_cons_zero, List.set_cons_succ])
      refine wpAnyH_take (i := 6) (oi := ⟨some 3, _, _, _, _, _⟩) (v := .int .i64 R9.1.1) rfl (by kernel_rfl) (by kernel_rfl) (by kernel_rfl) (fun _ _ _ h => h) (Or.inl ⟨by rfl, fun w' hw' => ?_⟩) (by assumption) ?_
      · clear hHeld
        go_simp
      simp only [Act.put, List.setIfInBounds_toArray, List.set_cons_zero, List.set_cons_succ]
      refine wpAnyH_done (by kernel_rfl) ?_ _
      clear hHeld
      (try simp only [Exit.inBlock, Exit.then])
      go_wp2_with fail
      refine bodyPost_ret (v := .tuple #[.agg zc, .int .i64 R9.1.1]) ?_ rfl HG.out
      exact results_pg rfl _ _ R zc _ rfl rfl HRF.out rfl
     have d9 : (R9.1.1 != 0) = false := by simp [he9]
     obtain ⟨y3, y4', y5'⟩ := zero_back (R2 := R2) HRc.out HFN.out.1 HR5.out HR6.out HR7.out HR8.out HR9.out he9
     have hrefa := refR_eq HR0.out HR1.out HR2.out HR3.out HRc.out HFN.out.1 HR5.out HR6.out HR7.out HR8.out HR9.out
     rw [HFN.out.2 y4', ← HEl.out y3, ← HEo.out y5'] at hrefa
     have hpok := ref_ok HBY.out (by rw [hrefa]; exact he9)
     rw [hrefa] at hpok
     have HREF := Lib.hid hrefa
     have HPOK := Lib.hid hpok
     have HZ9 := Lib.hid he9
     clear hrefa hpok y3 y4' y5'
     obtain ⟨pr, nr, cr, hbx, hpr⟩ := HDf.out.z.box
     have hln := (hpr he9).1.len
     have HLN := Lib.hid hln
     rw [he9] at hbx
     have b0 : z9.cell? ⟨R + 1, 0, none⟩ = some (.slice pr nr cr) := block_cell hbx rfl
     clear hbx hpr hln he9
     by_cases hnr : 0 < nr
     case pos =>
      have hd : (0 : Int) < nr := by omega
      have HNR := Lib.hid hnr
      clear hnr
      have HRF := Lib.hid (setRow_heap z9 R _ zc _ _ HDf.out.r)
      have HG : Hid (GivesD2 W (rdecP Bs) (.returned (.tuple #[.agg zc, .int .i64 8])) (z9.setRow R zc)) := Lib.hid (by
       have hp : rdecP Bs = (8, noP) := by
        unfold rdecP
        rw [HREF.out]
        dsimp only
        rw [if_neg (fun h => h HZ9.out), if_pos (Or.inl (by rw [HLN.out]; exact HNR.out))]
       rw [hp]
       exact ⟨none, 0, none, 0, none, 0, rfl, ⟨SlG.empty _, SlG.empty _, SlG.empty _⟩, below_setRow HDf.out.below HDf.out.base zc, (fun a h => by cases h), (fun a h => by cases h), (fun a h => by cases h)⟩)
      go_wp2_with ((with_reducible refine wpList_store_pg 0 0 0 none 0 0 none 0 0 none 0 0 0 0 0 0 HDf.out.r ?_ ?_ ?_); rfl; rfl)
      (try simp only [Exit.inBlock, Exit.then])
      refine bodyPost_ret (v := .tuple #[.agg zc, .int .i64 8]) ?_ rfl HG.out
      exact results_pg rfl _ _ R zc _ rfl rfl HRF.out rfl
     have hd : ¬ (0 : Int) < nr := by omega
     have HNR := Lib.hid hnr
     clear hnr
     have hgd := rgood_p 4 4 ((R0.2 : Nat) : Int) ((R1.2 : Nat) : Int) ((R2.2 : Nat) : Int) pl nl cl pt j ct po no co ((R6.2 : Nat) : Int) ((R7.2 : Nat) : Int) ((R8.2 : Nat) : Int) (sgn R9.2) Ll Lt Lo z9 HPf.out HPOK.out ⟨by have := HNl.out; omega, by have := hle; omega, by have := HNo.out; omega⟩
     obtain ⟨a0, a1, a2, a3, a4, a5, a6, a7, a8, a9⟩ := prog_cells _ _ _ _ _ _ _ _ _ _ _ _ _ _ _ _ HDf.out.y
     go_wp2_with fail
     refine hgd.mono ?_
     rintro e x8 ⟨rfl, hb8⟩
     have HD8 := Lib.hid (HDf.out.keep hb8)
     have HP8 := Lib.hid (HPf.out.later hb8)
     clear hb8 hgd a0 a1 a2 a3 a4 a5 a6 a7 a8 a9
     cases hg : goodP 4 4 (⟨((R0.2 : Nat) : Int), ((R1.2 : Nat) : Int), ((R2.2 : Nat) : Int), Ll, Lt, Lo, ((R6.2 : Nat) : Int), ((R7.2 : Nat) : Int), ((R8.2 : Nat) : Int), sgn R9.2⟩ : Pg)
     case false =>
      have HRF := Lib.hid (setRow_heap x8 R _ zc _ _ HD8.out.r)
      have HG : Hid (GivesD2 W (rdecP Bs) (.returned (.tuple #[.agg zc, .int .i64 8])) (x8.setRow R zc)) := Lib.hid (by
       have hp : rdecP Bs = (8, noP) := by
        unfold rdecP
        rw [HREF.out]
        dsimp only
        rw [if_neg (fun h => h HZ9.out), if_pos (Or.inr hg)]
       rw [hp]
       exact ⟨none, 0, none, 0, none, 0, rfl, ⟨SlG.empty _, SlG.empty _, SlG.empty _⟩, below_setRow HD8.out.below HD8.out.base zc, (fun a h => by cases h), (fun a h => by cases h), (fun a h => by cases h)⟩)
      go_wp2_with ((with_reducible refine wpList_store_pg 0 0 0 none 0 0 none 0 0 none 0 0 0 0 0 0 HD8.out.r ?_ ?_ ?_); rfl; rfl)
      (try simp only [Exit.inBlock, Exit.then])
      refine bodyPost_ret (v := .tuple #[.agg zc, .int .i64 8]) ?_ rfl HG.out
      exact results_pg rfl _ _ R zc _ rfl rfl HRF.out rfl
     obtain ⟨a0, a1, a2, a3, a4, a5, a6, a7, a8, a9⟩ := prog_cells _ _ _ _ _ _ _ _ _ _ _ _ _ _ _ _ HD8.out.y
     have HLLn : Hid (Ll.length = nl ∧ Lt.length = j ∧ Lo.length = no) := Lib.hid ⟨HP8.out.l.len, HP8.out.t.len, HP8.out.o.len⟩
     obtain ⟨C, hC⟩ : ∃ C : Array Value, #[.int .u8 ((R0.2 : Nat) : Int), .int .u32 ((R1.2 : Nat) : Int), .int .u8 ((R2.2 : Nat) : Int), .slice pl nl cl, .slice pt j ct, .slice po no co, .int .u8 ((R6.2 : Nat) : Int), .int .u8 ((R7.2 : Nat) : Int), .int .u8 ((R8.2 : Nat) : Int), .int .i64 (sgn R9.2)] = C := ⟨_, rfl⟩
     have HRF := Lib.hid (setRow_heap x8 R _ C _ _ HD8.out.r)
     have HG : Hid (GivesD2 W (rdecP Bs) (.returned (.tuple #[.agg C, .int .i64 0])) (x8.setRow R C)) := Lib.hid (by
      have hp : rdecP Bs = (0, (⟨((R0.2 : Nat) : Int), ((R1.2 : Nat) : Int), ((R2.2 : Nat) : Int), Ll, Lt, Lo, ((R6.2 : Nat) : Int), ((R7.2 : Nat) : Int), ((R8.2 : Nat) : Int), sgn R9.2⟩ : Pg)) := by
       unfold rdecP
       rw [HREF.out]
       dsimp only
       rw [if_neg (fun h => h HZ9.out), if_neg (fun h => h.elim (fun h => by rw [HLN.out] at h; exact HNR.out h) (fun h => by rw [hg] at h; exact absurd h (by decide)))]
      rw [hp]
      obtain ⟨q1, q2, q3⟩ := HLLn.out
      have hfar : ∀ q : Option Addr, Far (R + 2) q → ∀ a, q = some a → a.block ≠ R := fun q h a ha => by have := h a ha; omega
      refine ⟨pl, cl, pt, ct, po, co, by rw [← hC, q1, q2, q3], ?_, below_setRow HD8.out.below HD8.out.base C, (fun a h => by have := HFF.out.1 a h; have := HD8.out.base; omega), (fun a h => by have := HFF.out.2.1 a h; have := HD8.out.base; omega), (fun a h => by have := HFF.out.2.2 a h; have := HD8.out.base; omega)⟩
      rw [q1, q2, q3]
      exact ⟨HP8.out.l.turn (by simp [World.setRow]) fun _ a ha _ => setRow_other _ _ _ _ (hfar _ HFF.out.1 a ha), HP8.out.t.turn (by simp [World.setRow]) fun _ a ha _ => setRow_other _ _ _ _ (hfar _ HFF.out.2.1 a ha), HP8.out.o.turn (by simp [World.setRow]) fun _ a ha _ => setRow_other _ _ _ _ (hfar _ HFF.out.2.2 a ha)⟩)
     subst hC
     clear hg
     go_wp2_with ((with_reducible refine wpList_store_pg ((R0.2 : Nat) : Int) ((R1.2 : Nat) : Int) ((R2.2 : Nat) : Int) pl nl cl pt j ct po no co ((R6.2 : Nat) : Int) ((R7.2 : Nat) : Int) ((R8.2 : Nat) : Int) (sgn R9.2) HD8.out.r ?_ ?_ ?_); rfl; rfl)
     (try simp only [Exit.inBlock, Exit.then])
     refine bodyPost_ret (v := .tuple #[.agg #[.int .u8 ((R0.2 : Nat) : Int), .int .u32 ((R1.2 : Nat) : Int), .int .u8 ((R2.2 : Nat) : Int), .slice pl nl cl, .slice pt j ct, .slice po no co, .int .u8 ((R6.2 : Nat) : Int), .int .u8 ((R7.2 : Nat) : Int), .int .u8 ((R8.2 : Nat) : Int), .int .i64 (sgn R9.2)], .int .i64 0]) ?_ rfl HG.out
     exact results_pg rfl _ _ R _ _ rfl rfl HRF.out rfl
   · have hlt' : ¬ (j : Int) < nc := by omega
     obtain ⟨pt, ct, hv, htl, htp⟩ := SlG.of_own (d := tk0) tkc_len (by decide) HOj.out
     subst hv
     have HTl := Lib.hid htl
     have HFt : Hid (Far (R + 2) pt) := Lib.hid fun a ha => by have := HBj.out a.block (by rw [ha]; rfl); have := HYS.out; omega
     have HLl6 := Lib.hid (HLl5.out.turn HCj.out.size fun _ a ha hlt => HCj.out.block a.block hlt (by have := HFl.out a ha; omega))
     have hmlt := manyR_len (f := tkR) S1 j
     have HML := Lib.hid hmlt
     have HFN := Lib.hid hfin
     clear htl htp hmlt hfin HLl5 HOj HCj HBj
     generalize manyR tkR j S1 = Mj at *
     obtain ⟨S4, Lt⟩ := Mj
     dsimp only at HDj HTl HML HFN x1
     have HD6 := Lib.hid HDj.out
     clear HDj
     have hn := rdlines_any HD6.out.z
     obtain ⟨R5, hR5⟩ : ∃ R, rlistR lineR 3 S4 = R := ⟨_, rfl⟩
     rw [hR5] at hn
     have HR5 := Lib.hid hR5
     have HY6 := Lib.hid (block_lt HD6.out.y)
     clear hR5
     go_wp2_with fail
     refine hn.mono ?_
     rintro e y5 ⟨po, no, co, Lo, rfl, hl, hfar, hno, hz, hc, heq⟩
     have HFF : Hid (Far (R + 2) pl ∧ Far (R + 2) pt ∧ Far (R + 2) po) := Lib.hid ⟨HFl.out, HFt.out, fun a ha => by have := hfar a ha; have := HY6.out; omega⟩
     have HPb := Lib.hid (PgM.mk (fq_low HFl.out HLl6.out hc) (fq_low HFt.out HTl.out hc) hl)
     have HDb := Lib.hid (HD6.out.low hz hc)
     have HNo := Lib.hid hno
     have HEo := Lib.hid heq
     clear hz hc hn hfar hno heq hl HY6 x1
     obtain ⟨cy, cf⟩ := HDb.out.cy (j := 5) rfl
     go_upto_region 18 with (fail)
     clear cy cf
     have hd := HDb.out.put 5 (.slice po no co)
     simp only [List.setIfInBounds_toArray, List.set_cons_zero, List.set_cons_succ] at hd
     have HP6 := Lib.hid (pq_put HPb.out HFF.out 5 (.slice po no co))
     generalize y5.setCell ⟨R + 2, 5, none⟩ (.slice po no co) = z5 at *
     clear HD6
     have HD6 := Lib.hid hd
     clear hd HDb HPb HLl6 HTl
     obtain ⟨R6, hR6⟩ : ∃ R, numR R5.1 1 = R := ⟨_, rfl⟩
     have hn := pgnum_any HD6.out.z 1 (by omega)
     have hf := byte_lt HD6.out.z
     rw [hR6] at hn hf
     have hx6 : IntKind.u8.wrap ((R6.2 : Nat) : Int) = (R6.2 : Nat) := by simp [IntKind.wrap, IntKind.bits, IntKind.signed]; omega
     have HFT6 := Lib.hid hf
     have HR6 := Lib.hid hR6
     clear hf hR6
     go_wp2_with fail
     refine hn.mono ?_
     rintro e y6 ⟨rfl, hz, hc⟩
     have HDb := Lib.hid (HD6.out.low hz hc)
     have HPb := Lib.hid (pq_low HP6.out HFF.out hc)
     clear hz hc hn
     obtain ⟨cy, cf⟩ := HDb.out.cy (j := 6) rfl
     go_upto_region 19 with (fail)
     clear cy cf
     have hd := HDb.out.put 6 (.int .u8 ((R6.2 : Nat) : Int))
     simp only [List.setIfInBounds_toArray, List.set_cons_zero, List.set_cons_succ] at hd
     have HP7 := Lib.hid (pq_put HPb.out HFF.out 6 (.int .u8 ((R6.2 : Nat) : Int)))
     generalize y6.setCell ⟨R + 2, 6, none⟩ (.int .u8 ((R6.2 : Nat) : Int)) = z6 at *
     have HD7 := Lib.hid hd
     clear hd HDb HD6 HPb HP6
     obtain ⟨R7, hR7⟩ : ∃ R, numR R6.1 1 = R := ⟨_, rfl⟩
     have hn := pgnum_any HD7.out.z 1 (by omega)
     have hf := byte_lt HD7.out.z
     rw [hR7] at hn hf
     have hx7 : IntKind.u8.wrap ((R7.2 : Nat) : Int) = (R7.2 : Nat) := by simp [IntKind.wrap, IntKind.bits, IntKind.signed]; omega
     have HFT7 := Lib.hid hf
     have HR7 := Lib.hid hR7
     clear hf hR7
     go_wp2_with fail
     refine hn.mono ?_
     rintro e y7 ⟨rfl, hz, hc⟩
     have HDb := Lib.hid (HD7.out.low hz hc)
     have HPb := Lib.hid (pq_low HP7.out HFF.out hc)
     clear hz hc hn
     obtain ⟨cy, cf⟩ := HDb.out.cy (j := 7) rfl
     go_upto_region 20 with (fail)
     clear cy cf
     have hd := HDb.out.put 7 (.int .u8 ((R7.2 : Nat) : Int))
     simp only [List.setIfInBounds_toArray, List.set_cons_zero, List.set_cons_succ] at hd
     have HP8 := Lib.hid (pq_put HPb.out HFF.out 7 (.int .u8 ((R7.2 : Nat) : Int)))
     generalize y7.setCell ⟨R + 2, 7, none⟩ (.int .u8 ((R7.2 : Nat) : Int)) = z7 at *
     have HD8 := Lib.hid hd
     clear hd HDb HD7 HPb HP7
     obtain ⟨R8, hR8⟩ : ∃ R, numR R7.1 1 = R := ⟨_, rfl⟩
     have hn := pgnum_any HD8.out.z 1 (by omega)
     have hf := byte_lt HD8.out.z
     rw [hR8] at hn hf
     have hx8 : IntKind.u8.wrap ((R8.2 : Nat) : Int) = (R8.2 : Nat) := by simp [IntKind.wrap, IntKind.bits, IntKind.signed]; omega
     have HFT8 := Lib.hid hf
     have HR8 := Lib.hid hR8
     clear hf hR8
     go_wp2_with fail
     refine hn.mono ?_
     rintro e y8 ⟨rfl, hz, hc⟩
     have HDb := Lib.hid (HD8.out.low hz hc)
     have HPb := Lib.hid (pq_low HP8.out HFF.out hc)
     clear hz hc hn
     obtain ⟨cy, cf⟩ := HDb.out.cy (j := 8) rfl
     go_upto_region 21 with (fail)
     clear cy cf
     have hd := HDb.out.put 8 (.int .u8 ((R8.2 : Nat) : Int))
     simp only [List.setIfInBounds_toArray, List.set_cons_zero, List.set_cons_succ] at hd
     have HP9 := Lib.hid (pq_put HPb.out HFF.out 8 (.int .u8 ((R8.2 : Nat) : Int)))
     generalize y8.setCell ⟨R + 2, 8, none⟩ (.int .u8 ((R8.2 : Nat) : Int)) = z8 at *
     have HD9 := Lib.hid hd
     clear hd HDb HD8 HPb HP8
     obtain ⟨R9, hR9⟩ : ∃ Q, numR R8.1 8 = Q := ⟨_, rfl⟩
     have hn := pgint_any HD9.out.z
     have hf := num8_lt HD9.out.z
     rw [hR9] at hn hf
     rw [sgn_wrap _ hf] at hn
     have HR9 := Lib.hid hR9
     have HFT9 := Lib.hid hf
     clear hf hR9
     go_wp2_with fail
     refine hn.mono ?_
     rintro e y9 ⟨rfl, hz, hc⟩
     have HDb := Lib.hid (HD9.out.low hz hc)
     have HPb := Lib.hid (pq_low HP9.out HFF.out hc)
     clear hz hc hn
     obtain ⟨cy, cf⟩ := HDb.out.cy (j := 9) rfl
     go_upto_region 22 with (fail)
     clear cy cf
     have hd := HDb.out.put 9 (.int .i64 (sgn R9.2))
     simp only [List.setIfInBounds_toArray, List.set_cons_zero, List.set_cons_succ] at hd
     have HPf := Lib.hid (pq_put HPb.out HFF.out 9 (.int .i64 (sgn R9.2)))
     generalize y9.setCell ⟨R + 2, 9, none⟩ (.int .i64 (sgn R9.2)) = z9 at *
     have HDf := Lib.hid hd
     clear hd HDb HD9 HPb HP9
     have x1 := HDf.out.z.err
     by_cases he9 : R9.1.1 = 0
     case neg =>
      have d9 : (R9.1.1 != 0) = true := by simpa using he9
      have hq9 : Hid (R9.1.1 ≠ 0) := Lib.hid he9
      obtain ⟨pr, nr, cr, hbx, hpr⟩ := HDf.out.z.box
      have HDd := Lib.hid (HDf.out.keep (show Below z9.heap.size z9 z9.drew from (Below.refl _ _).drew))
      have HBX : Hid (z9.drew.heap[R + 1]? = some (.cells #[.slice pr nr cr, .int .i64 R9.1.1] 162 (0, 0))) := Lib.hid hbx
      clear he9 hbx hpr
      have HRF := Lib.hid (setRow_heap z9.drew R _ zc _ _ HDd.out.r)
      have HG : Hid (GivesD2 W (rdecP Bs) (.returned (.tuple #[.agg zc, .int .i64 R9.1.1])) (z9.drew.setRow R zc)) := Lib.hid (by
       have hp : rdecP Bs = (R9.1.1, noP) := by
        unfold rdecP
        rw [refR_eq HR0.out HR1.out HR2.out HR3.out HRc.out HFN.out.1 HR5.out HR6.out HR7.out HR8.out HR9.out]
        dsimp only
        rw [if_pos hq9.out]
       rw [hp]
       exact ⟨none, 0, none, 0, none, 0, rfl, ⟨SlG.empty _, SlG.empty _, SlG.empty _⟩, below_setRow HDd.out.below HDd.out.base zc, (fun a h => by cases h), (fun a h => by cases h), (fun a h => by cases h)⟩)
      go_wp2_with fail
      refine wp_region_held_drew (S := fun w' => Hid (w'.heap[R + 1]? = some (.cells #[.slice pr nr cr, .int .i64 R9.1.1] 162 (0, 0)))) (by kernel_rfl) HBX (fun hHeld => ?_)
      refine wpAnyH_take (i := 0) (oi := ⟨some 87, _, _, _, _, _⟩) (v := .agg zc) rfl (by kernel_rfl) (by kernel_rfl) (by kernel_rfl) (fun _ _ _ h => h) (Or.inl ⟨by rfl, fun w' hw' => ?_⟩) (by assumption) ?_
      · clear hHeld
        go_simp
      simp only [Act.put, List.setIfInBounds_toArray, List.set_cons_zero, List.set_cons_succ]
      refine wpAnyH_take (i := 1) (oi := ⟨some 88, _, _, _, _, _⟩) (v := .pointer (some ⟨R + 1, 0, none⟩)) rfl (by kernel_rfl) (by kernel_rfl) (by kernel_rfl) (fun _ _ _ h => h) (Or.inl ⟨by rfl, fun w' hw' => ?_⟩) (by assumption) ?_
      · clear hHeld
        go_simp
      simp only [Act.put, List.setIfInBounds_toArray, List.set_cons_zero, List.set_cons_succ]
      refine wpAnyH_take (i := 2) (oi := ⟨some 89, _, _, _, _, _⟩) (v := .pointer (some ⟨R + 1, 0, none⟩)) rfl (by kernel_rfl) (by kernel_rfl) (by kernel_rfl) (fun _ _ _ h => h) (Or.inl ⟨by rfl, fun w' hw' => ?_⟩) (by assumption) ?_
      · clear hHeld
        go_simp
      simp only [Act.put, List.setIfInBounds_toArray, List.set_cons_zero, List.set_cons_succ]
      refine wpAnyH_take (i := 3) (oi := ⟨some 90, _, _, _, _, _⟩) (v := .pointer (some ⟨R + 1, 1, none⟩)) rfl (by kernel_rfl) (by kernel_rfl) (by kernel_rfl) (fun _ _ _ h => h) (Or.inl ⟨by rfl, fun w' hw' => ?_⟩) (by assumption) ?_
      · clear hHeld
        go_simp
      simp only [Act.put, List.setIfInBounds_toArray, List.set_cons_zero, List.set_cons_succ]
      refine wpAnyH_take (i := 4) (oi := ⟨some 91, _, _, _, _, _⟩) (v := .int .i64 R9.1.1) rfl (by kernel_rfl) (by kernel_rfl) (by kernel_rfl) (fun _ _ _ h => h) (Or.inl ⟨by rfl, fun w' hw' => ?_⟩) (by assumption) ?_
      · have g1 := block_cell (j := 1) (v := .int .i64 R9.1.1) hw'.out rfl
        clear hHeld
        go_simp
      simp only [Act.put, List.setIfInBounds_toArray, List.set_cons_zero, List.set_cons_succ]
      generalize z9.drew = Wd at *
      refine wpAnyH_ready (rs := [5]) (by kernel_rfl) (by simp) (AllReadyH.cons rfl (fun K hK => ?_) AllReadyH.nil)
      rw [if_pos (by rfl)]
      refine wp_store_row 49 _ _ rfl R zc rfl rfl 49 _ HDd.out.r (by kernel_rfl) rfl (by kernel_rfl) ?_
      have HB2 : Hid ((Wd.setRow R zc).heap[R + 1]? = some (.cells #[.slice pr nr cr, .int .i64 R9.1.1] 162 (0, 0))) := Lib.hid ((setRow_other _ _ _ _ (by omega)).trans HBX.out)
      refine hK.out _ _ HB2 (fun hHeld2 => ?_)
      clear hK K hHeld
      have hHeld := hHeld2
      clear hHeld2
      (try simp only [Act.put, List.setIfInBounds_toArray, List.set_cons_zero, List.set_cons_succ])
      refine wpAnyH_take (i := 6) (oi := ⟨some 3, _, _, _, _, _⟩) (v := .int .i64 R9.1.1) rfl (by kernel_rfl) (by kernel_rfl) (by kernel_rfl) (fun _ _ _ h => h) (Or.inl ⟨by rfl, fun w' hw' => ?_⟩) (by assumption) ?_
      · clear hHeld
        go_simp
      simp only [Act.put, List.setIfInBounds_toArray, List.set_cons_zero, List.set_cons_succ]
      refine wpAnyH_done (by kernel_rfl) ?_ _
      clear hHeld
      (try simp only [Exit.inBlock, Exit.then])
      go_wp2_with fail
      refine bodyPost_ret (v := .tuple #[.agg zc, .int .i64 R9.1.1]) ?_ rfl HG.out
      exact results_pg rfl _ _ R zc _ rfl rfl HRF.out rfl
     have d9 : (R9.1.1 != 0) = false := by simp [he9]
     obtain ⟨y3, y4', y5'⟩ := zero_back (R2 := R2) HRc.out HFN.out.1 HR5.out HR6.out HR7.out HR8.out HR9.out he9
     have hrefa := refR_eq HR0.out HR1.out HR2.out HR3.out HRc.out HFN.out.1 HR5.out HR6.out HR7.out HR8.out HR9.out
     rw [HFN.out.2 y4', ← HEl.out y3, ← HEo.out y5'] at hrefa
     have hpok := ref_ok HBY.out (by rw [hrefa]; exact he9)
     rw [hrefa] at hpok
     have HREF := Lib.hid hrefa
     have HPOK := Lib.hid hpok
     have HZ9 := Lib.hid he9
     clear hrefa hpok y3 y4' y5'
     obtain ⟨pr, nr, cr, hbx, hpr⟩ := HDf.out.z.box
     have hln := (hpr he9).1.len
     have HLN := Lib.hid hln
     rw [he9] at hbx
     have b0 : z9.cell? ⟨R + 1, 0, none⟩ = some (.slice pr nr cr) := block_cell hbx rfl
     clear hbx hpr hln he9
     by_cases hnr : 0 < nr
     case pos =>
      have hd : (0 : Int) < nr := by omega
      have HNR := Lib.hid hnr
      clear hnr
      have HRF := Lib.hid (setRow_heap z9 R _ zc _ _ HDf.out.r)
      have HG : Hid (GivesD2 W (rdecP Bs) (.returned (.tuple #[.agg zc, .int .i64 8])) (z9.setRow R zc)) := Lib.hid (by
       have hp : rdecP Bs = (8, noP) := by
        unfold rdecP
        rw [HREF.out]
        dsimp only
        rw [if_neg (fun h => h HZ9.out), if_pos (Or.inl (by rw [HLN.out]; exact HNR.out))]
       rw [hp]
       exact ⟨none, 0, none, 0, none, 0, rfl, ⟨SlG.empty _, SlG.empty _, SlG.empty _⟩, below_setRow HDf.out.below HDf.out.base zc, (fun a h => by cases h), (fun a h => by cases h), (fun a h => by cases h)⟩)
      go_wp2_with ((with_reducible refine wpList_store_pg 0 0 0 none 0 0 none 0 0 none 0 0 0 0 0 0 HDf.out.r ?_ ?_ ?_); rfl; rfl)
      (try simp only [Exit.inBlock, Exit.then])
      refine bodyPost_ret (v := .tuple #[.agg zc, .int .i64 8]) ?_ rfl HG.out
      exact results_pg rfl _ _ R zc _ rfl rfl HRF.out rfl
     have hd : ¬ (0 : Int) < nr := by omega
     have HNR := Lib.hid hnr
     clear hnr
     have hgd := rgood_p 4 4 ((R0.2 : Nat) : Int) ((R1.2 : Nat) : Int) ((R2.2 : Nat) : Int) pl nl cl pt j ct po no co ((R6.2 : Nat) : Int) ((R7.2 : Nat) : Int) ((R8.2 : Nat) : Int) (sgn R9.2) Ll Lt Lo z9 HPf.out HPOK.out ⟨by have := HNl.out; omega, by have := hle; omega, by have := HNo.out; omega⟩
     obtain ⟨a0, a1, a2, a3, a4, a5, a6, a7, a8, a9⟩ := prog_cells _ _ _ _ _ _ _ _ _ _ _ _ _ _ _ _ HDf.out.y
     go_wp2_with fail
     refine hgd.mono ?_
     rintro e x8 ⟨rfl, hb8⟩
     have HD8 := Lib.hid (HDf.out.keep hb8)
     have HP8 := Lib.hid (HPf.out.later hb8)
     clear hb8 hgd a0 a1 a2 a3 a4 a5 a6 a7 a8 a9
     cases hg : goodP 4 4 (⟨((R0.2 : Nat) : Int), ((R1.2 : Nat) : Int), ((R2.2 : Nat) : Int), Ll, Lt, Lo, ((R6.2 : Nat) : Int), ((R7.2 : Nat) : Int), ((R8.2 : Nat) : Int), sgn R9.2⟩ : Pg)
     case false =>
      have HRF := Lib.hid (setRow_heap x8 R _ zc _ _ HD8.out.r)
      have HG : Hid (GivesD2 W (rdecP Bs) (.returned (.tuple #[.agg zc, .int .i64 8])) (x8.setRow R zc)) := Lib.hid (by
       have hp : rdecP Bs = (8, noP) := by
        unfold rdecP
        rw [HREF.out]
        dsimp only
        rw [if_neg (fun h => h HZ9.out), if_pos (Or.inr hg)]
       rw [hp]
       exact ⟨none, 0, none, 0, none, 0, rfl, ⟨SlG.empty _, SlG.empty _, SlG.empty _⟩, below_setRow HD8.out.below HD8.out.base zc, (fun a h => by cases h), (fun a h => by cases h), (fun a h => by cases h)⟩)
      go_wp2_with ((with_reducible refine wpList_store_pg 0 0 0 none 0 0 none 0 0 none 0 0 0 0 0 0 HD8.out.r ?_ ?_ ?_); rfl; rfl)
      (try simp only [Exit.inBlock, Exit.then])
      refine bodyPost_ret (v := .tuple #[.agg zc, .int .i64 8]) ?_ rfl HG.out
      exact results_pg rfl _ _ R zc _ rfl rfl HRF.out rfl
     obtain ⟨a0, a1, a2, a3, a4, a5, a6, a7, a8, a9⟩ := prog_cells _ _ _ _ _ _ _ _ _ _ _ _ _ _ _ _ HD8.out.y
     have HLLn : Hid (Ll.length = nl ∧ Lt.length = j ∧ Lo.length = no) := Lib.hid ⟨HP8.out.l.len, HP8.out.t.len, HP8.out.o.len⟩
     obtain ⟨C, hC⟩ : ∃ C : Array Value, #[.int .u8 ((R0.2 : Nat) : Int), .int .u32 ((R1.2 : Nat) : Int), .int .u8 ((R2.2 : Nat) : Int), .slice pl nl cl, .slice pt j ct, .slice po no co, .int .u8 ((R6.2 : Nat) : Int), .int .u8 ((R7.2 : Nat) : Int), .int .u8 ((R8.2 : Nat) : Int), .int .i64 (sgn R9.2)] = C := ⟨_, rfl⟩
     have HRF := Lib.hid (setRow_heap x8 R _ C _ _ HD8.out.r)
     have HG : Hid (GivesD2 W (rdecP Bs) (.returned (.tuple #[.agg C, .int .i64 0])) (x8.setRow R C)) := Lib.hid (by
      have hp : rdecP Bs = (0, (⟨((R0.2 : Nat) : Int), ((R1.2 : Nat) : Int), ((R2.2 : Nat) : Int), Ll, Lt, Lo, ((R6.2 : Nat) : Int), ((R7.2 : Nat) : Int), ((R8.2 : Nat) : Int), sgn R9.2⟩ : Pg)) := by
       unfold rdecP
       rw [HREF.out]
       dsimp only
       rw [if_neg (fun h => h HZ9.out), if_neg (fun h => h.elim (fun h => by rw [HLN.out] at h; exact HNR.out h) (fun h => by rw [hg] at h; exact absurd h (by decide)))]
      rw [hp]
      obtain ⟨q1, q2, q3⟩ := HLLn.out
      have hfar : ∀ q : Option Addr, Far (R + 2) q → ∀ a, q = some a → a.block ≠ R := fun q h a ha => by have := h a ha; omega
      refine ⟨pl, cl, pt, ct, po, co, by rw [← hC, q1, q2, q3], ?_, below_setRow HD8.out.below HD8.out.base C, (fun a h => by have := HFF.out.1 a h; have := HD8.out.base; omega), (fun a h => by have := HFF.out.2.1 a h; have := HD8.out.base; omega), (fun a h => by have := HFF.out.2.2 a h; have := HD8.out.base; omega)⟩
      rw [q1, q2, q3]
      exact ⟨HP8.out.l.turn (by simp [World.setRow]) fun _ a ha _ => setRow_other _ _ _ _ (hfar _ HFF.out.1 a ha), HP8.out.t.turn (by simp [World.setRow]) fun _ a ha _ => setRow_other _ _ _ _ (hfar _ HFF.out.2.1 a ha), HP8.out.o.turn (by simp [World.setRow]) fun _ a ha _ => setRow_other _ _ _ _ (hfar _ HFF.out.2.2 a ha)⟩)
     subst hC
     clear hg
     go_wp2_with ((with_reducible refine wpList_store_pg ((R0.2 : Nat) : Int) ((R1.2 : Nat) : Int) ((R2.2 : Nat) : Int) pl nl cl pt j ct po no co ((R6.2 : Nat) : Int) ((R7.2 : Nat) : Int) ((R8.2 : Nat) : Int) (sgn R9.2) HD8.out.r ?_ ?_ ?_); rfl; rfl)
     (try simp only [Exit.inBlock, Exit.then])
     refine bodyPost_ret (v := .tuple #[.agg #[.int .u8 ((R0.2 : Nat) : Int), .int .u32 ((R1.2 : Nat) : Int), .int .u8 ((R2.2 : Nat) : Int), .slice pl nl cl, .slice pt j ct, .slice po no co, .int .u8 ((R6.2 : Nat) : Int), .int .u8 ((R7.2 : Nat) : Int), .int .u8 ((R8.2 : Nat) : Int), .int .i64 (sgn R9.2)], .int .i64 0]) ?_ rfl HG.out
     exact results_pg rfl _ _ R _ _ rfl rfl HRF.out rfl
  obtain ⟨hltj, he⟩ := hgo
  have hltj' : (j : Int) < nc := by omega
  have de : ((manyR tkR j S1).1.1 == 0) = true := by simpa using he
  obtain ⟨X, hX⟩ : ∃ n, wr.heap.size = n := ⟨_, rfl⟩
  obtain ⟨w2, hw2, hx2, hb2⟩ : ∃ w2, (wr.alloc (.cells #[.int .u32 0, .int .u8 0, .int .u8 0, .int .i64 0] 204)).setRow X #[.int .u32 0, .int .u8 0, .int .u8 0, .int .i64 0] = w2 ∧ w2.heap[X]? = some (.cells #[.int .u32 0, .int .u8 0, .int .u8 0, .int .i64 0] 204 (0, 0)) ∧ Below wr.heap.size wr w2 := ⟨_, rfl, by rw [← hX]; exact setRow_heap _ _ _ _ _ _ (alloc_block wr _), below_setRow ((Below.refl _ _).alloc (Nat.le_refl _) _) (by omega) _⟩
  have hx1 := alloc_block wr (.cells #[.int .u32 0, .int .u8 0, .int .u8 0, .int .i64 0] 204)
  rw [hX] at hx1
  have HX1 := Lib.hid hx1
  have HW2 := Lib.hid hw2
  have HXE := Lib.hid hX
  have hstep : manyR tkR (j + 1) S1 = ((tkR (manyR tkR j S1).1).1, (manyR tkR j S1).2 ++ [(tkR (manyR tkR j S1).1).2]) := rfl
  have HST := Lib.hid hstep
  have hml := manyR_len (f := tkR) S1 j
  have hsb := HCj.out.size
  have hys := HYS.out
  have HT0 : Hid (Tq W y4 w2 R X p (manyR tkR j S1).1 #[.int .u8 ((R0.2 : Nat) : Int), .int .u32 ((R1.2 : Nat) : Int), .int .u8 ((R2.2 : Nat) : Int), .slice pl nl cl, v, .slice none 0 0, .int .u8 0, .int .u8 0, .int .u8 0, .int .i64 0] #[.int .u32 0, .int .u8 0, .int .u8 0, .int .i64 0] v j (manyR tkR j S1).2) := Lib.hid ⟨HDj.out.keep hb2, hx2, row_keep HOj.out (Chg.of_below (S := fun _ => False) hb2) fun _ _ h => h, HCj.out.trans (Chg.of_below (S := fun k => k = R + 1 ∨ k = R + 2) hb2) fun _ _ h => h, ⟨by omega, by omega⟩, fun b hb => ⟨by have := HBj.out b hb; omega, by have := (HOj.out.lt b hb).2; omega⟩⟩
  have HNC : Hid (nc ≤ 12) := Lib.hid hle
  clear hx1 hx2 hw2 hX hb2 hstep he hsb hys HDj HOj HCj
  generalize manyR tkR j S1 = Mj at *
  obtain ⟨Sj, Lj⟩ := Mj
  dsimp only at HT0 HST hml de x1
  obtain ⟨Q0, hQ0⟩ : ∃ Q, numR Sj 4 = Q := ⟨_, rfl⟩
  have hn := pgnum_any HT0.out.d.z 4 (by omega)
  have hf := num4_lt HT0.out.d.z
  rw [hQ0] at hn hf
  have hx0 : IntKind.u32.wrap ((Q0.2 : Nat) : Int) = (Q0.2 : Nat) := by simp [IntKind.wrap, IntKind.bits, IntKind.signed]; omega
  have HQ0 := Lib.hid hQ0
  clear hf hQ0
  go_wp2_with ((try rw [HXE.out]); (with_reducible refine wpList_store_tk (B := X) (x0 := 0) (x1 := 0) (x2 := 0) (q := 0) HX1.out ?_ ?_ ?_); rfl; rfl; rw [HW2.out])
  refine hn.mono ?_
  rintro e v0 ⟨rfl, hz, hc⟩
  have HTb := Lib.hid (HT0.out.low hz hc)
  clear hz hc hn
  obtain ⟨cy, cf⟩ := HTb.out.cx (i := 0) rfl
  go_upto_region 13 with (fail)
  clear cy cf
  have hd := HTb.out.put 0 (.int .u32 ((Q0.2 : Nat) : Int))
  simp only [List.setIfInBounds_toArray, List.set_cons_zero, List.set_cons_succ] at hd
  generalize v0.setCell ⟨X, 0, none⟩ (.int .u32 ((Q0.2 : Nat) : Int)) = u0x at *
  have HT1 := Lib.hid hd
  clear hd HTb HT0
  obtain ⟨Q1, hQ1⟩ : ∃ Q, numR Q0.1 1 = Q := ⟨_, rfl⟩
  have hn := pgnum_any HT1.out.d.z 1 (by omega)
  have hf := byte_lt HT1.out.d.z
  rw [hQ1] at hn hf
  have hx1 : IntKind.u8.wrap ((Q1.2 : Nat) : Int) = (Q1.2 : Nat) := by simp [IntKind.wrap, IntKind.bits, IntKind.signed]; omega
  have HQ1 := Lib.hid hQ1
  clear hf hQ1
  go_wp2_with fail
  refine hn.mono ?_
  rintro e v1 ⟨rfl, hz, hc⟩
  have HTb := Lib.hid (HT1.out.low hz hc)
  clear hz hc hn
  obtain ⟨cy, cf⟩ := HTb.out.cx (i := 1) rfl
  go_upto_region 14 with (fail)
  clear cy cf
  have hd := HTb.out.put 1 (.int .u8 ((Q1.2 : Nat) : Int))
  simp only [List.setIfInBounds_toArray, List.set_cons_zero, List.set_cons_succ] at hd
  generalize v1.setCell ⟨X, 1, none⟩ (.int .u8 ((Q1.2 : Nat) : Int)) = u1x at *
  have HT2 := Lib.hid hd
  clear hd HTb HT1
  obtain ⟨Q2, hQ2⟩ : ∃ Q, numR Q1.1 1 = Q := ⟨_, rfl⟩
  have hn := pgnum_any HT2.out.d.z 1 (by omega)
  have hf := byte_lt HT2.out.d.z
  rw [hQ2] at hn hf
  have hx2 : IntKind.u8.wrap ((Q2.2 : Nat) : Int) = (Q2.2 : Nat) := by simp [IntKind.wrap, IntKind.bits, IntKind.signed]; omega
  have HQ2 := Lib.hid hQ2
  clear hf hQ2
  go_wp2_with fail
  refine hn.mono ?_
  rintro e v2 ⟨rfl, hz, hc⟩
  have HTb := Lib.hid (HT2.out.low hz hc)
  clear hz hc hn
  obtain ⟨cy, cf⟩ := HTb.out.cx (i := 2) rfl
  go_upto_region 15 with (fail)
  clear cy cf
  have hd := HTb.out.put 2 (.int .u8 ((Q2.2 : Nat) : Int))
  simp only [List.setIfInBounds_toArray, List.set_cons_zero, List.set_cons_succ] at hd
  generalize v2.setCell ⟨X, 2, none⟩ (.int .u8 ((Q2.2 : Nat) : Int)) = u2x at *
  have HT3 := Lib.hid hd
  clear hd HTb HT2
  obtain ⟨Q3, hQ3⟩ : ∃ Q, numR Q2.1 8 = Q := ⟨_, rfl⟩
  have hn := pgint_any HT3.out.d.z
  have hf := num8_lt HT3.out.d.z
  rw [hQ3] at hn hf
  rw [sgn_wrap _ hf] at hn
  have HQ3 := Lib.hid hQ3
  clear hf hQ3
  go_wp2_with fail
  refine hn.mono ?_
  rintro e v3 ⟨rfl, hz, hc⟩
  have HTb := Lib.hid (HT3.out.low hz hc)
  clear hz hc hn
  obtain ⟨cy, cf⟩ := HTb.out.cx (i := 3) rfl
  go_upto_region 16 with (fail)
  clear cy cf
  have hd := HTb.out.put 3 (.int .i64 (sgn Q3.2))
  simp only [List.setIfInBounds_toArray, List.set_cons_zero, List.set_cons_succ] at hd
  generalize v3.setCell ⟨X, 3, none⟩ (.int .i64 (sgn Q3.2)) = w6 at *
  obtain ⟨x, hx⟩ : ∃ x : Tk, (((Q0.2 : Nat) : Int), ((Q1.2 : Nat) : Int), ((Q2.2 : Nat) : Int), sgn Q3.2) = x := ⟨_, rfl⟩
  have HTR : Hid (tkR Sj = (Q3.1, x)) := Lib.hid (by unfold tkR; rw [HQ0.out, HQ1.out, HQ2.out, HQ3.out, hx])
  have e0 : ((Q0.2 : Nat) : Int) = x.1 := by rw [← hx]
  have e1 : ((Q1.2 : Nat) : Int) = x.2.1 := by rw [← hx]
  have e2 : ((Q2.2 : Nat) : Int) = x.2.2.1 := by rw [← hx]
  have e3 : sgn Q3.2 = x.2.2.2 := by rw [← hx]
  rw [e0, e1, e2, e3] at hd
  have HT6 := Lib.hid hd
  clear hx e0 e1 e2 e3 hd HTb HT3
  obtain ⟨c0, _⟩ := HT6.out.cx (i := 0) rfl
  obtain ⟨c1, _⟩ := HT6.out.cx (i := 1) rfl
  obtain ⟨c2, _⟩ := HT6.out.cx (i := 2) rfl
  obtain ⟨c3, _⟩ := HT6.out.cx (i := 3) rfl
  obtain ⟨c4, _⟩ := HT6.out.d.cy (j := 4) rfl
  have hba : Below w6.heap.size w6 (w6.alloc (.cells #[.int .u32 x.1, .int .u8 x.2.1, .int .u8 x.2.2.1, .int .i64 x.2.2.2] 204)) := (Below.refl _ _).alloc (Nat.le_refl _) _
  have HD7 := Lib.hid (HT6.out.d.keep hba)
  have HO7 := Lib.hid (HT6.out.o.alloc (.cells #[.int .u32 x.1, .int .u8 x.2.1, .int .u8 x.2.2.1, .int .i64 x.2.2.2] 204))
  have HC7 := Lib.hid (HT6.out.c.trans (Chg.of_below (S := fun k => k = R + 1 ∨ k = R + 2) hba) fun _ _ h => h)
  have HXO := Lib.hid HT6.out.xo
  have HXR := Lib.hid HT6.out.xr
  have HFAR : Hid (∀ w8, Chg (fun b => v.ownBlock = some b) (w6.alloc (.cells #[.int .u32 x.1, .int .u8 x.2.1, .int .u8 x.2.2.1, .int .i64 x.2.2.2] 204)) w8 → w8.cell? ⟨R + 2, 4, none⟩ = some v ∧ w8.frozen? ⟨R + 2, 4, none⟩ = false) := Lib.hid fun w8 g => (HD7.out.far g fun k hk => (HXO.out k hk).1).cy rfl
  have hj12 : j ≤ 12 := by have := HNC.out; omega
  clear hba HT6
  go_wp2_with (at_builtin; refine wpList_append_vals (k := 4) (by decide) Tryz.underlying47 info_tk rfl (by omega) rfl _ _ rfl v j (flatG tkc Lj) rfl HO7.out (some ⟨w6.heap.size, 0, none⟩) 1 1 (flatG tkc [x]) rfl rfl (fun h => by cases h) (tk_news w6 x) (flatG_all tkc_one _) (by omega) ?_; intro p8 c8 w8 g1 g2 g3; obtain ⟨cy8, cf8⟩ := HFAR.out w8 g2)
  have hbase : ∀ b, (Value.slice p8 (j + 1) c8).ownBlock = some b → y4.heap.size ≤ b := fun b hb => by
   rcases g3 b hb with hk | hk
   · exact HBj.out b hk
   · have := HC7.out.size; have := HXR.out; omega
  rw [← flatG_append] at g1
  have hd8 := (HD7.out.far g2 fun k hk => (HXO.out k hk).1).put 4 (.slice p8 (j + 1) c8)
  simp only [List.setIfInBounds_toArray, List.set_cons_zero, List.set_cons_succ] at hd8
  have hs8 : Chg (fun k => k = R + 2) w8 (w8.setCell ⟨R + 2, 4, none⟩ (.slice p8 (j + 1) c8)) := (Chg.refl _ _).setCell ⟨R + 2, 4, none⟩ _ fun _ => rfl
  have HD8 := Lib.hid hd8
  have HO8 := Lib.hid (row_keep g1 hs8 fun b hb hk => by have := hbase b hb; have := HYS.out; omega)
  have HC8 := Lib.hid ((HC7.out.trans g2 fun b hb1 hb2 => by have := HBj.out b hb2; omega).trans hs8 fun k _ hk => .inr hk)
  have HBS := Lib.hid hbase
  clear g1 g2 g3 hbase c0 c1 c2 c3 c4 cy8 cf8 hd8 hs8
  go_roundw
  case rel => exact ⟨j + 1, .slice p8 (j + 1) c8, by omega, by go_num, Lib.hid (by rw [HST.out, HTR.out]; exact HD8.out), Lib.hid (by rw [HST.out, HTR.out]; exact HO8.out), HC8, HBS⟩
  case measure => simp [Go.RowKit.intOf]; omega
end Go.Proofs.YtfdgnniicjdjdaaGreatDoor
