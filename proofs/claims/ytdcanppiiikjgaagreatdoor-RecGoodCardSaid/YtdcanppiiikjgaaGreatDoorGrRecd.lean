/- What the kinds are called: the words lie in their variable where the row's condition holds; rec.Word, and the document's. -/
/- A record decoded: the program's way. -/
/- The chapter's examples; whether a record has few things. -/
import Derived.Test.YtdcanppiiikjgaaGreatDoorGrStep
import Derived.LaidMore
import Derived.LaidLaws
import Derived.Lib.LaidTab
import Derived.Lib.SmallJoins
import Derived.MakeChecks
import Derived.Test.YtdcanppiiikjgaaGreatDoorRecRead
import Derived.Test.YtdcanppiiikjgaaGreatDoorGrProgn
namespace Go.Proofs.YtdcanppiiikjgaaGreatDoor
open Go.RowKit Go.ChangeShapes Go.WideShapes
set_option linter.unusedVariables false
set_option maxRecDepth 10000

/-- The words, by the kind. -/
def rwordsL : List (List UInt8) := [[], [115, 116, 97, 114, 116], [98, 101, 103, 105, 110], [97, 100, 100], [99, 111, 109, 109, 105, 116], [97, 98, 111, 114, 116], [117, 110, 100, 111], [103, 111, 110, 101], [98, 97, 99, 107], [100, 111, 110, 101]]
def rwordB (t : Nat) : ByteArray := ⟨(rwordsL.getD t []).toArray⟩
/-- The words lie in their variable. -/
def RWords (W : World) : Prop := W.var? Tryz.prog "pledge/rec.words" = some (rwordsL.map fun z => Value.string ⟨z.toArray⟩).toArray
theorem gRWords : Tryz.prog.globalNamed "pledge/rec.words" = some 0 := by kernel_rfl
theorem tRWords : (Tryz.prog.globals[0]?).map (·.type) = some 56 := by kernel_rfl
theorem RWords.later {W W' : World} (h : RWords W) (hb : Below W.heap.size W W') : RWords W' := Go.Joins.var_stays gRWords h hb (Nat.le_refl _)
theorem RWords.cell {W : World} (h : RWords W) (t : Nat) (ht : t < 10) : W.cell? ⟨0, t, none⟩ = some (.string (rwordB t)) := by
  have := World.var?_cell gRWords h t
  rw [this]
  rcases (by omega : t = 0 ∨ t = 1 ∨ t = 2 ∨ t = 3 ∨ t = 4 ∨ t = 5 ∨ t = 6 ∨ t = 7 ∨ t = 8 ∨ t = 9) with rfl | rfl | rfl | rfl | rfl | rfl | rfl | rfl | rfl | rfl <;> rfl
theorem words_of {W : World} {rest : List (String × DataW Unit)} {ps : List MemPlace} (h : DataW.LaidVars Tryz.prog W (("pledge/step.words", Rows.laid_pledge_step_words) :: rest) ps) : Words W ∧ ∃ q, DataW.LaidVars Tryz.prog W rest q := by
  obtain ⟨g', t', cs, fuel, p, q, hg', ht', hvar, hd, hrest, _⟩ := h
  obtain rfl := Option.some.inj (gWords.symm.trans hg')
  obtain rfl := Option.some.inj (tWords.symm.trans ht')
  refine ⟨?_, q, hrest⟩
  unfold Words
  rw [hvar, ← cells_of_strs (zs := wordsL) Tryz.underlying161 Tryz.underlying9 (by kernel_rfl) (by kernel_rfl) hd]
/-- What both words' rows give. -/
def Wd2 (W : World) : Prop := Words W ∧ RWords W
theorem Wd2.later {W W' : World} (h : Wd2 W) (hb : Below W.heap.size W W') : Wd2 W' := ⟨h.1.later hb, h.2.later hb⟩
theorem kword_any (t : Int) (h0 : 0 ≤ t) (h255 : t ≤ 255) (W : World) (hw : RWords W) :
    Calls Tryz.prog 13 #[.int .u8 t] W fun e w' => e = .returned (.string (rwordB t.toNat)) ∧ w' = W := by
  by_cases h9 : t < 10
  · obtain ⟨k, rfl⟩ : ∃ k : Nat, t = (k : Int) := ⟨t.toNat, by omega⟩
    have hc := hw.cell k (by omega)
    have hd : decide (10 ≤ (k : Int)) = false := decide_eq_false (by omega)
    have hk : ((k : Nat) : Int).toNat = k := rfl
    rw [hk]
    generalize rwordB k = s at *
    clear hw hk
    go_enter Tryz.func13, Tryz.ntmps13
    go_wp2_with fail
    go_ret
    exact ⟨rfl, rfl⟩
  · have hd : decide (10 ≤ t) = true := decide_eq_true (by omega)
    have hk : rwordB t.toNat = ⟨#[]⟩ := by
      unfold rwordB rwordsL
      rw [List.getD, List.getElem?_eq_none (by simp; omega)]; rfl
    rw [hk]
    clear hw hk
    go_enter Tryz.func13, Tryz.ntmps13
    go_wp2_with fail
    go_ret
    exact ⟨rfl, rfl⟩
theorem rkword_any (t : Int) (h0 : 0 ≤ t) (W : World) :
    Calls Tryz.prog 14 #[.int .u8 t] W fun e w' => e = .returned (.string (rwordB t.toNat)) ∧ w' = W := by
  by_cases h9 : 1 ≤ t ∧ t ≤ 9
  · rcases (by omega : t = 1 ∨ t = 2 ∨ t = 3 ∨ t = 4 ∨ t = 5 ∨ t = 6 ∨ t = 7 ∨ t = 8 ∨ t = 9) with rfl | rfl | rfl | rfl | rfl | rfl | rfl | rfl | rfl
    all_goals
      go_enter Tryz.func14, Tryz.ntmps14
      go_wp2_with fail
      go_ret
      exact ⟨rfl, rfl⟩
  · have hk : rwordB t.toNat = ⟨#[]⟩ := by
      by_cases h : t = 0
      · subst h; rfl
      · unfold rwordB rwordsL
        rw [List.getD, List.getElem?_eq_none (by simp; omega)]; rfl
    rw [hk]
    have e1 : (t == 1) = false := by simp; omega
    have e2 : (t == 2) = false := by simp; omega
    have e3 : (t == 3) = false := by simp; omega
    have e4 : (t == 4) = false := by simp; omega
    have e5 : (t == 5) = false := by simp; omega
    have e6 : (t == 6) = false := by simp; omega
    have e7 : (t == 7) = false := by simp; omega
    have e8 : (t == 8) = false := by simp; omega
    have e9 : (t == 9) = false := by simp; omega
    clear h9 hk h0
    go_enter Tryz.func14, Tryz.ntmps14
    go_wp2_with fail
    go_ret
    exact ⟨rfl, rfl⟩
end Go.Proofs.YtdcanppiiikjgaaGreatDoor
namespace Go.Proofs.YtdcanppiiikjgaaGreatDoor
open Go.RowKit Go.ChangeShapes Go.WideShapes
set_option linter.unusedVariables false
set_option linter.unusedSimpArgs false
set_option maxRecDepth 10000

theorem decP_small (B : List Nat) : (decP B).2.lines.length ≤ 3 ∧ (decP B).2.takes.length ≤ 12 ∧ (decP B).2.owes.length ≤ 3 := by
  unfold decP
  split
  · exact ⟨Nat.zero_le _, Nat.zero_le _, Nat.zero_le _⟩
  · split
    · exact ⟨listR_most _ _ _, listR_most _ _ _, listR_most _ _ _⟩
    · exact ⟨Nat.zero_le _, Nat.zero_le _, Nat.zero_le _⟩
theorem decP_ok {B : List Nat} (hB : ∀ y ∈ B, y < 256) : Pgok (decP B).2 := by
  by_cases h : (decP B).1 = 0
  · exact (enc_dec hB h).2.2
  · unfold decP at h ⊢
    split
    · exact noP_ok
    · rename_i h1
      rw [if_neg h1] at h
      split
      · rename_i h2
        rw [if_pos h2] at h
        exact absurd rfl h
      · exact noP_ok
theorem nat_u8 {x : Nat} (h : x < 256) : (0 : Int) ≤ (x : Nat) ∧ ((x : Nat) : Int) ≤ 255 := by omega
theorem nat_u32 {x : Nat} (h : x < 4294967296) : (0 : Int) ≤ (x : Nat) ∧ ((x : Nat) : Int) ≤ 4294967295 := by omega
theorem boolR_bytes {S : St} (h : ∀ y ∈ S.2, y < 256) : ∀ y ∈ (boolR S).1.2, y < 256 := by rw [boolR_2]; exact numR_bytes h 1
/-- What is read fits. -/
theorem rdX_ok {k : Int} (hk : kOk k = true) {S : St} (h : ∀ y ∈ S.2, y < 256) : Rxok (rdX k S).rx ∧ (rdX k S).rx.pg.lines.length ≤ 3 ∧ (rdX k S).rx.pg.takes.length ≤ 12 ∧ (rdX k S).rx.pg.owes.length ≤ 3 := by
  have h4 := fit_4 h
  have b4 := numR_bytes h 4
  have hz : (0 : Int) ≤ 0 ∧ (0 : Int) ≤ 255 := by omega
  have hz4 : (0 : Int) ≤ 0 ∧ (0 : Int) ≤ 4294967295 := by omega
  have hk0 : Kok ((0, 0, 0) : K) := ⟨hz, hz, hz⟩
  have hd0 : In64 0 := by simp [In64]
  have hn : ([] : List Ln).length ≤ 3 ∧ ([] : List Tk).length ≤ 12 ∧ ([] : List Ln).length ≤ 3 := ⟨Nat.zero_le _, Nat.zero_le _, Nat.zero_le _⟩
  rcases kOk_cases hk with e | e | e | e | e | e | e | e | e <;> subst e
  · rw [show rdX 1 S = rd1 S from rfl]
    unfold rd1
    dsimp only
    have hb := bytesR_lt b4 512
    split
    · exact ⟨⟨⟨by show (0 : Int) ≤ 1; omega, by show (1 : Int) ≤ 255; omega⟩, nat_u32 h4, hz4, hz, hk0, hd0, hz, decP_ok hb⟩, decP_small _⟩
    · exact ⟨⟨⟨by show (0 : Int) ≤ 1; omega, by show (1 : Int) ≤ 255; omega⟩, nat_u32 h4, hz4, hz, hk0, hd0, hz, noP_ok⟩, hn⟩
  · rw [show rdX 2 S = rd2 S from rfl]
    unfold rd2
    dsimp only
    exact ⟨⟨⟨by show (0 : Int) ≤ 2; omega, by show (2 : Int) ≤ 255; omega⟩, nat_u32 h4, nat_u32 (fit_4 b4), nat_u8 (fit_1 (numR_bytes b4 4)), hk0, hd0, hz, noP_ok⟩, hn⟩
  · rw [show rdX 3 S = rd3 3 S from rfl]
    unfold rd3 keyR
    dsimp only
    have b5 := numR_bytes b4 1
    have b6 := numR_bytes b5 1
    have b7 := numR_bytes b6 1
    exact ⟨⟨⟨by show (0 : Int) ≤ 3; omega, by show (3 : Int) ≤ 255; omega⟩, hz4, nat_u32 h4, hz, ⟨nat_u8 (fit_1 b4), nat_u8 (fit_1 b5), nat_u8 (fit_1 b6)⟩, sgn_in (fit8 b7), hz, noP_ok⟩, hn⟩
  · rw [show rdX 4 S = rd4 4 S from rfl]
    exact ⟨⟨⟨by show (0 : Int) ≤ 4; omega, by show (4 : Int) ≤ 255; omega⟩, hz4, nat_u32 h4, hz, hk0, hd0, hz, noP_ok⟩, hn⟩
  · rw [show rdX 5 S = rd4 5 S from rfl]
    exact ⟨⟨⟨by show (0 : Int) ≤ 5; omega, by show (5 : Int) ≤ 255; omega⟩, hz4, nat_u32 h4, hz, hk0, hd0, hz, noP_ok⟩, hn⟩
  · rw [show rdX 6 S = rd3 6 S from rfl]
    unfold rd3 keyR
    dsimp only
    have b5 := numR_bytes b4 1
    have b6 := numR_bytes b5 1
    have b7 := numR_bytes b6 1
    exact ⟨⟨⟨by show (0 : Int) ≤ 6; omega, by show (6 : Int) ≤ 255; omega⟩, hz4, nat_u32 h4, hz, ⟨nat_u8 (fit_1 b4), nat_u8 (fit_1 b5), nat_u8 (fit_1 b6)⟩, sgn_in (fit8 b7), hz, noP_ok⟩, hn⟩
  · rw [show rdX 7 S = rd4 7 S from rfl]
    exact ⟨⟨⟨by show (0 : Int) ≤ 7; omega, by show (7 : Int) ≤ 255; omega⟩, hz4, nat_u32 h4, hz, hk0, hd0, hz, noP_ok⟩, hn⟩
  · rw [show rdX 8 S = rd8 S from rfl]
    exact ⟨⟨⟨by show (0 : Int) ≤ 8; omega, by show (8 : Int) ≤ 255; omega⟩, nat_u32 h4, hz4, hz, hk0, hd0, hz, noP_ok⟩, hn⟩
  · rw [show rdX 9 S = rd9 S from rfl]
    exact ⟨⟨⟨by show (0 : Int) ≤ 9; omega, by show (9 : Int) ≤ 255; omega⟩, nat_u32 h4, hz4, hz, hk0, hd0, nat_u8 (fit_1 b4), noP_ok⟩, hn⟩
theorem decX_eq (Bs : List Nat) : decX Bs = if readE Bs ≠ 0 then (readE Bs, noX) else if goodX (rdX (((numR (0, Bs) 1).2 : Nat) : Int) (numR (0, Bs) 1).1).rx = true then (0, (rdX (((numR (0, Bs) 1).2 : Nat) : Int) (numR (0, Bs) 1).1).rx) else (8, noX) := by
  unfold decX readE
  dsimp only
  by_cases hk : kOk (((numR (0, Bs) 1).2 : Nat) : Int) = true
  · rw [if_pos hk, if_pos hk]
  · rw [if_neg hk, if_neg hk]
    have hne : (if (numR (0, Bs) 1).1.1 ≠ 0 then (numR (0, Bs) 1).1.1 else 8) ≠ 0 := by split <;> omega
    rw [if_pos hne]
theorem readE_ok {Bs : List Nat} (hB : ∀ y ∈ Bs, y < 256) (h : readE Bs = 0) : Rxok (rdX (((numR (0, Bs) 1).2 : Nat) : Int) (numR (0, Bs) 1).1).rx ∧ (rdX (((numR (0, Bs) 1).2 : Nat) : Int) (numR (0, Bs) 1).1).rx.pg.lines.length ≤ 3 ∧ (rdX (((numR (0, Bs) 1).2 : Nat) : Int) (numR (0, Bs) 1).1).rx.pg.takes.length ≤ 12 ∧ (rdX (((numR (0, Bs) 1).2 : Nat) : Int) (numR (0, Bs) 1).1).rx.pg.owes.length ≤ 3 := by
  cases hk : kOk (((numR (0, Bs) 1).2 : Nat) : Int) with
  | true => exact rdX_ok hk (numR_bytes (S := (0, Bs)) hB 1)
  | false =>
    unfold readE at h
    rw [hk, if_neg (by decide)] at h
    split at h
    · rename_i h1; exact absurd h h1
    · exact absurd h (by decide)
/-- What Decode hands back. -/
def GivesXr (W : World) (res : Int × Rx) (e : Ending) (w' : World) : Prop := ∃ r L T M, e = .returned (.tuple #[.agg (rcs r), .int .i64 res.1]) ∧ r.x L T M = res.2 ∧ RvM w' r L T M ∧ Below W.heap.size W w'
set_option maxHeartbeats 8000000 in
theorem rec_decode (p : Option Addr) (n c : Nat) (Bs : List Nat) (W : World) (hw : Words W) (hS : Sl W p n c Bs) (hn : n ≤ 600) :
    Calls Tryz.prog 17 #[.slice p n c] W (GivesXr W (decX Bs)) := by
  obtain ⟨R, hR⟩ : ∃ R, W.heap.size = R := ⟨_, rfl⟩
  obtain ⟨W0, hW0, hr0, hb0⟩ : ∃ W0, W.alloc (.cells zr 30) = W0 ∧ RB W0 R rz ∧ Below W.heap.size W W0 := ⟨_, rfl, by rw [← hR]; exact alloc_block W _, (Below.refl _ _).alloc (Nat.le_refl _) _⟩
  have hrd := read_any p n c Bs W0 (hS.later hb0) (by omega)
  have HLN : Hid (Bs.length ≤ 1000) := Lib.hid (by have := hS.len; omega)
  have HBY : Hid (∀ y ∈ Bs, y < 256) := Lib.hid hS.lt
  have HRD := Lib.hid hrd
  have HW0 := Lib.hid hW0
  have HR0 := Lib.hid hr0
  have HB0 := Lib.hid hb0
  have HWD := Lib.hid hw
  have HRE := Lib.hid hR
  have HDX := Lib.hid (decX_eq Bs)
  clear hW0 hr0 hb0 hrd hS hw hR hn
  go_enter Tryz.func17, Tryz.ntmps17
  go_upto_region 1 with (fail)
  rw [HW0.out, HRE.out]
  go_wp2_with fail
  refine HRD.out.mono ?_
  rintro e w1 ⟨B, p', c', rfl, hB, hrd, hpb, hb1⟩
  have hBl := hrd.lt
  have hs01 := hb1.size
  have hRlt := block_lt HR0.out
  have hZ : Zw w1 w1.heap.size B (0, Bs) := ⟨⟨p', c', hrd, fun a ha => by have := (hpb a ha).2; omega⟩, hBl, Nat.le_refl _, HLN.out, HBY.out⟩
  have hlow : W.heap.size ≤ B := by have := HB0.out.size; omega
  have HBW := Lib.hid (fun w (hc : Chg (fun k => k = B) w1 w) => Chg.below (W := W) (B := W.heap.size) (HB0.out.trans (hb1.mono HB0.out.size)) (by have := HB0.out.size; omega) hc fun k hk => by omega)
  have hrr := rec_read w1 w1.heap.size B Bs hZ (fun w hc => HWD.out.later (HBW.out w hc))
  have HR1 := Lib.hid (HR0.out.later hb1)
  have HRB : Hid (R ≠ B) := Lib.hid (by omega)
  clear hB hrd hpb hb1 hBl hs01 hRlt hZ hlow HRD
  go_wp2_with fail
  refine hrr.mono ?_
  rintro e w2 ⟨r, L, T, M, rfl, hm, hx, hc, hf1, hf2, hf3⟩
  have HFR : Hid ((∀ a, r.lp = some a → R < a.block) ∧ (∀ a, r.tp = some a → R < a.block) ∧ (∀ a, r.wp = some a → R < a.block)) := Lib.hid (by
    have := block_lt HR1.out
    exact ⟨fun a h => by have := hf1 a h; omega, fun a h => by have := hf2 a h; omega, fun a h => by have := hf3 a h; omega⟩)
  clear hf1 hf2 hf3
  have HB2 := Lib.hid (HBW.out w2 hc)
  have HR2 := Lib.hid (HR1.out.chg hc HRB.out)
  have HX := Lib.hid hx
  have HM := Lib.hid hm
  clear hm hx hc hrr HR1 HRB HBW
  obtain ⟨ec, hec⟩ : ∃ z, readE Bs = z := ⟨_, rfl⟩
  rw [hec]
  have HEC := Lib.hid hec
  clear hec
  obtain ⟨N2, hN2⟩ : ∃ n, w2.heap.size = n := ⟨_, rfl⟩
  obtain ⟨w3, hwn, hxn, hbn⟩ : ∃ w3, (w2.alloc (.cells zr 30)).setRow N2 (rcs r) = w3 ∧ RB w3 N2 r ∧ Below w2.heap.size w2 w3 := ⟨_, rfl, by rw [← hN2]; exact setRow_heap _ _ _ _ _ _ (alloc_block w2 _), below_setRow ((Below.refl _ _).alloc (Nat.le_refl _) _) (by omega) _⟩
  have hxz : RB (w2.alloc (.cells zr 30)) N2 rz := by rw [← hN2]; exact alloc_block w2 _
  have HX3 := Lib.hid hxn
  have HXZ := Lib.hid hxz
  have HR3 := Lib.hid (HR2.out.later hbn)
  have HB3 := Lib.hid (HB2.out.trans (hbn.mono HB2.out.size))
  have HM3 := Lib.hid (HM.out.later hbn)
  have HWN := Lib.hid hwn
  have HNN := Lib.hid hN2
  have HWR : Hid (W.heap.size ≤ R) := Lib.hid (by have := HRE.out; omega)
  clear hwn hxn hbn hxz hN2 HM HR2
  by_cases h0 : ec = 0
  case neg =>
    have d0 : (ec != 0) = true := by simpa using h0
    have HRF := Lib.hid (HR3.out.set rz)
    have HG : Hid (GivesXr W (decX Bs) (.returned (.tuple #[.agg zr, .int .i64 ec])) (w3.setRow R zr)) := Lib.hid (by
      have hp : decX Bs = (ec, noX) := by rw [HDX.out, if_pos (by rw [HEC.out]; exact h0), HEC.out]
      rw [hp]
      exact ⟨rz, [], [], [], rfl, rfl, rz_m _, below_setRow HB3.out HWR.out zr⟩)
    clear h0
    go_wp2_with (first | ((try rw [HNN.out]); (with_reducible refine wpList_store_rc r HXZ.out ?_ ?_ ?_); rfl; rfl; rw [HWN.out]) | ((with_reducible refine wpList_store_rc rz HR3.out ?_ ?_ ?_); rfl; rfl))
    (try simp only [Exit.inBlock, Exit.then])
    refine bodyPost_ret (v := .tuple #[.agg zr, .int .i64 ec]) ?_ rfl HG.out
    exact results_rc rfl _ _ R rz _ rfl rfl HRF.out
  have d0 : (ec != 0) = false := by simp [h0]
  have he0 : readE Bs = 0 := HEC.out.trans h0
  have hx := HX.out he0
  obtain ⟨hok, hs1, hs2, hs3⟩ := readE_ok HBY.out he0
  rw [← hx] at hok hs1 hs2 hs3
  have hdx := HDX.out
  rw [if_neg (fun h => h he0), ← hx] at hdx
  have hgd := rec_good r L T M w3 (HWD.out.later HB3.out) HM3.out hok ⟨by have := HM3.out.l.len; have h : L.length ≤ 3 := hs1; omega, by have := HM3.out.t.len; have h : T.length ≤ 12 := hs2; omega, by have := HM3.out.o.len; have h : M.length ≤ 3 := hs3; omega⟩
  have HDD := Lib.hid hdx
  clear hdx hok hs1 hs2 hs3 hx he0 HDX HX
  go_wp2_with (first | ((try rw [HNN.out]); (with_reducible refine wpList_store_rc r HXZ.out ?_ ?_ ?_); rfl; rfl; rw [HWN.out]) | ((with_reducible refine wpList_load_rc HX3.out ?_ ?_); rfl))
  refine hgd.mono ?_
  rintro e w4 ⟨rfl, hb4⟩
  have HB4 := Lib.hid (HB3.out.trans (hb4.mono HB3.out.size))
  have HR4 := Lib.hid (HR3.out.later hb4)
  have HX4 := Lib.hid (HX3.out.later hb4)
  have HM4 := Lib.hid (HM3.out.later hb4)
  clear hb4 hgd
  cases hg : goodX (r.x L T M)
  case false =>
    have HRF := Lib.hid (HR4.out.set rz)
    have HG : Hid (GivesXr W (decX Bs) (.returned (.tuple #[.agg zr, .int .i64 8])) (w4.setRow R zr)) := Lib.hid (by
      have hp : decX Bs = (8, noX) := by rw [HDD.out, if_neg (by rw [hg]; decide)]
      rw [hp]
      exact ⟨rz, [], [], [], rfl, rfl, rz_m _, below_setRow HB4.out HWR.out zr⟩)
    go_wp2_with ((with_reducible refine wpList_store_rc rz HR4.out ?_ ?_ ?_); rfl; rfl)
    (try simp only [Exit.inBlock, Exit.then])
    refine bodyPost_ret (v := .tuple #[.agg zr, .int .i64 8]) ?_ rfl HG.out
    exact results_rc rfl _ _ R rz _ rfl rfl HRF.out
  have HRF := Lib.hid (HR4.out.set r)
  have HG : Hid (GivesXr W (decX Bs) (.returned (.tuple #[.agg (rcs r), .int .i64 0])) (w4.setRow R (rcs r))) := Lib.hid (by
    have hp : decX Bs = (0, r.x L T M) := by rw [HDD.out, if_pos hg]
    rw [hp]
    exact ⟨r, L, T, M, rfl, rfl, pgm_chg HM4.out (S := fun k => k = R) ⟨rfl, rfl, rfl, by simp [World.setRow], fun k _ hn => setRow_other _ _ _ _ hn⟩ (fun a h e => by have := HFR.out.1 a h; omega) (fun a h e => by have := HFR.out.2.1 a h; omega) (fun a h e => by have := HFR.out.2.2 a h; omega), below_setRow HB4.out HWR.out (rcs r)⟩)
  clear hg
  go_wp2_with (first | ((with_reducible refine wpList_load_rc HX4.out ?_ ?_); rfl) | ((with_reducible refine wpList_store_rc r HR4.out ?_ ?_ ?_); rfl; rfl))
  (try simp only [Exit.inBlock, Exit.then])
  refine bodyPost_ret (v := .tuple #[.agg (rcs r), .int .i64 0]) ?_ rfl HG.out
  exact results_rc rfl _ _ R r _ rfl rfl HRF.out
end Go.Proofs.YtdcanppiiikjgaaGreatDoor
namespace Go.Proofs.YtdcanppiiikjgaaGreatDoor
open Go.RowKit Go.ChangeShapes Go.WideShapes
set_option linter.unusedVariables false
set_option linter.unusedSimpArgs false
set_option maxRecDepth 10000

/-- The example: a saga that has ended. -/
def rex : Rv := ⟨9, 258, 0, 0, false, 0, 0, 0, 0, 1, 0, 0, 0, none, 0, 0, none, 0, 0, none, 0, 0, 0, 0, 0, 0⟩
theorem rex_ok : Rxok (rex.x [] [] []) := ⟨by simp [Rv.x, rex], by simp [Rv.x, rex], by simp [Rv.x, rex], by simp [Rv.x, rex], by simp [Rv.x, rex, Kok], by simp [Rv.x, rex, In64], by simp [Rv.x, rex], noP_ok⟩
theorem rex_good : goodX (rex.x [] [] []) = true := by decide
theorem rex_bytes : bytesX (rex.x [] [] []) = [9, 2, 1, 0, 0, 1] := by decide
theorem rex_dec : decX [9, 2, 1, 0, 0, 1] = (0, rex.x [] [] []) := by decide
set_option maxHeartbeats 4000000 in
theorem rec_works (W : World) (hw : Wd2 W) : Calls Tryz.prog 6 #[] W fun e w' => e = .returned (.bool true) ∧ Below W.heap.size W w' := by
  have hen := rec_encode rex [] [] [] W hw.1 ⟨SlG.empty _, SlG.empty _, SlG.empty _⟩ rex_ok ⟨by decide, by decide, by decide⟩
  have HWD := Lib.hid hw
  clear hw
  go_enter Tryz.func6, Tryz.ntmps6
  go_wp2_with fail
  refine hen.mono ?_
  rintro e w1 ⟨hb1, hy⟩
  rw [if_pos rex_good, rex_bytes] at hy
  obtain ⟨p1, c1, rfl, hs1⟩ := hy
  rw [show ([9, 2, 1, 0, 0, 1] : List Nat).length = 6 from rfl] at hs1 ⊢
  have HB1 := Lib.hid hb1
  have HS1 := Lib.hid hs1
  clear hb1 hs1 hen
  go_wp2_with fail
  refine (rec_decode p1 6 c1 [9, 2, 1, 0, 0, 1] w1 (HWD.out.1.later HB1.out) HS1.out (by decide)).mono ?_
  rintro e w2 ⟨r, L, T, M, rfl, hx, hm, hb2⟩
  rw [rex_dec] at hx ⊢
  have hsg : r.sg = 258 := congrArg Rx.sg hx
  have HB2 := Lib.hid (HB1.out.trans (hb2.mono HB1.out.size))
  have HS2 := Lib.hid (HS1.out.later hb2)
  clear hx hm hb2
  obtain ⟨N2, hN2⟩ : ∃ n, w2.heap.size = n := ⟨_, rfl⟩
  obtain ⟨w3, hwn, hxn, hbn⟩ : ∃ w3, (w2.alloc (.cells zr 30)).setRow N2 (rcs r) = w3 ∧ RB w3 N2 r ∧ Below w2.heap.size w2 w3 := ⟨_, rfl, by rw [← hN2]; exact setRow_heap _ _ _ _ _ _ (alloc_block w2 _), below_setRow ((Below.refl _ _).alloc (Nat.le_refl _) _) (by omega) _⟩
  have hxz : RB (w2.alloc (.cells zr 30)) N2 rz := by rw [← hN2]; exact alloc_block w2 _
  have c1f : w3.cell? ⟨N2, 1, none⟩ = some (.int .u32 258) := by have := block_cell (j := 1) (v := .int .u32 r.sg) hxn rfl; rwa [hsg] at this
  have HXZ := Lib.hid hxz
  have HB3 := Lib.hid (HB2.out.trans (hbn.mono HB2.out.size))
  have v1 := conv_sl (HS2.out.later hbn)
  rw [show strOf [9, 2, 1, 0, 0, 1] = ⟨#[9, 2, 1, 0, 0, 1]⟩ from rfl] at v1
  have HWN := Lib.hid hwn
  have HNN := Lib.hid hN2
  clear hwn hxn hbn hxz hN2 hsg HS2
  go_wp2_with ((try rw [HNN.out]); (with_reducible refine wpList_store_rc r HXZ.out ?_ ?_ ?_); rfl; rfl; rw [HWN.out])
  refine (cost_any 3 w3).mono ?_
  rintro e w4 ⟨rfl, h4⟩
  rw [show costI 3 = 22 from rfl]
  have HB4 := Lib.hid (HB3.out.trans (h4.mono HB3.out.size))
  clear h4 v1 c1f
  go_wp2_with fail
  refine (cost_any 4 w4).mono ?_
  rintro e w5 ⟨rfl, h5⟩
  rw [show costI 4 = 11 from rfl]
  have HB5 := Lib.hid (HB4.out.trans (h5.mono HB4.out.size))
  clear h5
  go_wp2_with fail
  refine (kword_any 7 (by decide) (by decide) w5 (HWD.out.2.later HB5.out)).mono ?_
  rintro e w6 ⟨rfl, rfl⟩
  rw [show rwordB (7 : Int).toNat = ⟨#[103, 111, 110, 101]⟩ from rfl]
  go_wp2_with fail
  go_ret
  exact ⟨rfl, HB5.out⟩
/-- Few things. -/
def fewX (r : Rv) : Bool := fewI r.ln r.tn r.wn == 1
theorem rec_few (r : Rv) (W : World) : Calls Tryz.prog 5 #[.agg (rcs r)] W fun e w' => e = .returned (.bool (fewX r)) ∧ Below W.heap.size W w' := by
  obtain ⟨W1, hW1, hb1⟩ : ∃ W1, W.alloc (.cells (rcs r) 30) = W1 ∧ Below W.heap.size W W1 := ⟨_, rfl, (Below.refl _ _).alloc (Nat.le_refl _) _⟩
  obtain ⟨B, hB⟩ : ∃ B, W.heap.size = B := ⟨_, rfl⟩
  have hrb := RB.new W r
  rw [hW1, hB] at hrb
  have HX1 := Lib.hid hrb
  have HW1 := Lib.hid hW1
  have HB1 := Lib.hid hb1
  have HRE := Lib.hid hB
  have hf := few_p r.pk r.od r.po r.lp r.ln r.lcp r.tp r.tn r.tcp r.wp r.wn r.wcp r.sk r.fr r.to r.q W1
  have HF : Hid (fewX r = (fewI r.ln r.tn r.wn == 1)) := Lib.hid rfl
  generalize fewI r.ln r.tn r.wn = z at *
  clear hW1 hb1 hB hrb
  go_enter Tryz.func5, Tryz.ntmps5
  go_upto_region 1 with (fail)
  rw [HW1.out, HRE.out]
  go_wp2_with ((with_reducible refine wpList_load_pr HX1.out ?_ ?_); rfl)
  refine hf.mono ?_
  rintro e w2 ⟨rfl, h2⟩
  have HB2 := Lib.hid (HB1.out.trans (h2.mono HB1.out.size))
  clear h2 hf
  go_wp2_with fail
  go_ret
  exact ⟨by rw [HF.out]; rfl, HB2.out⟩
end Go.Proofs.YtdcanppiiikjgaaGreatDoor
