/-
  FrameTurns answers true of any lists of bytes and any turn, and writes nothing that was there: the tied card. No condition but the card's own: the table of half a byte's moves lies as the program's text lays it.
DOOR5
DOOR: Tab of_laid door_met
HEARTS 8000000
-/
import Derived.Test.YtmadneedeheekaaDoorRows
import Derived.Test.YtmadneedeheekaaDoorCards
import Derived.Test.YtmadneedeheekaaDoorTie
import Derived.SevenTiedAt
import Derived.Stop.Joined
import Derived.Test.YtmadneedeheekaaDoorFrameTurn
import Derived.BigQuiet
import Derived.LoopTactic
import Derived.Laws.OwnMore
import Derived.Deep.AppendLies
import Derived.WalkKit
import Derived.ProofKit
import Derived.OpenShut
import Derived.ShutString
import Derived.ChangeOld
import Derived.Below
namespace Go.Proofs.YtmadneedeheekaaDoor.frameTurns
open Go.ChangeShapes Go.WideShapes Go.ChangeAt Go.RowKit
open Go.ChangeMaps (open_string shut_string)
set_option linter.unusedVariables false

theorem own : ownKnob Tryd.prog.godebug = none := by kernel_rfl
theorem laidOut : laidOutB Tryd.prog = true := by kernel_rfl

set_option maxHeartbeats 8000000 in
set_option maxRecDepth 100000 in
theorem walk (a0 : Option Addr) (len0 cap0 : Nat) (L0 : List ListN) (a1 : Array Value) (w : World) (hv : Tab w) (w0 : LSx w a0 len0 cap0 L0 ∧ ∀ y ∈ L0, AnyL y) (w1 : TurnIn w a1) :
    Calls Tryd.prog 6 #[.slice a0 len0 cap0, .agg a1] w fun e w' => e = .returned (.bool true) ∧ Below w.heap.size w w' := by
  have HT := Lib.hid hv
  clear hv
  obtain ⟨⟨H0, hL⟩, _⟩ := w0
  have HLL := Lib.hid hL
  clear hL
  obtain ⟨tf, ta, A, rfl, hf8, ha16, hA32⟩ := w1
  obtain ⟨G, hG⟩ : ∃ G, put L0 (min len0 12) = G := ⟨_, rfl⟩
  have HGG : Hid (∀ P ∈ G, good P = true) := Lib.hid (hG ▸ put_good L0 _)
  have hG12 : G.length ≤ 12 := by
    rw [← hG]
    exact Nat.le_trans (put_few L0 _) (Nat.min_le_right _ _)
  have hA12 : (flat G).length ≤ 518 * 12 := by
    rw [← endAt_all]
    exact Nat.le_trans (endAt_few G HGG.out _) (Nat.mul_le_mul_left _ hG12)
  have hb0 : Below w.heap.size w (w.alloc (.cells #[.int .u8 (tf : Int), .int .u16 (ta : Int), .int .u32 (A : Int)] 49)) := (Below.refl _ _).alloc (Nat.le_refl _) _
  have HB0 := Lib.hid hb0
  have HX0 := Lib.hid (alloc_block w (.cells #[.int .u8 (tf : Int), .int .u16 (ta : Int), .int .u32 (A : Int)] 49))
  have HFR := Lib.hid (framed_any a0 len0 cap0 H0 L0 _ (HLL.out.later hb0) (HT.out.later hb0 HT.out.lt))
  have HS0 : Hid ((w.alloc (.cells #[.int .u8 (tf : Int), .int .u16 (ta : Int), .int .u32 (A : Int)] 49)).heap.size = w.heap.size + 1) := Lib.hid (by simp)
  rw [hG] at HFR
  clear hG HLL hb0
  go_enter Tryd.func6, Tryd.ntmps6
  go_wp2_with fail
  generalize w.alloc (.cells #[.int .u8 (tf : Int), .int .u16 (ta : Int), .int .u32 (A : Int)] 49) = W0 at *
  refine HFR.out.mono ?_
  rintro e w1 ⟨pa, ca, pp, cp, pe, ce, H, rfl, hsa, hca, hsp, hse, hb1⟩
  have HSA := Lib.hid hsa
  have HCA := Lib.hid hca
  have HSP := Lib.hid hsp
  have HSE := Lib.hid hse
  have HX1 := Lib.hid (block_later HX0.out hb1)
  have HB1 := Lib.hid (HB0.out.trans (hb1.mono HB0.out.size))
  have hcc := hsa.cap
  have hcp := hsp.row.cap
  unfold maxLen at hca
  clear hsa hsp hse hb1 HFR HB0 HX0 HS0
  by_cases hg0 : G.length = 0
  · have hng : ((G.length : Int) == 0) = true := by simp [hg0]
    generalize (flat G).length = nA at *
    generalize G.length = nG at *
    go_wp2_with fail
    refine (works10 _ (HT.out.later HB1.out HT.out.lt)).mono ?_
    rintro e w6 ⟨rfl, hb6⟩
    have HB6 := Lib.hid (HB1.out.trans (hb6.mono HB1.out.size))
    clear hb6
    go_wp2_with fail
    go_ret
    exact ⟨rfl, HB6.out⟩
  have hng : ((G.length : Int) == 0) = false := by rw [beq_eq_false_iff_ne]; omega
  obtain ⟨k, hk, hkl⟩ : ∃ k : Nat, (tf : Int) % (G.length : Int) = (k : Int) ∧ k < G.length := ⟨tf % G.length, by rw [Int.natCast_emod], Nat.mod_lt _ (by omega)⟩
  have HPG : Hid (good (G.getD k []) = true) := Lib.hid (by
    rw [List.getD, List.getElem?_eq_getElem hkl]
    exact HGG.out _ (List.getElem_mem hkl))
  have hPb := (good_iff _).1 HPG.out
  have HFL := Lib.hid (flat_parts G k hkl)
  have HAL := Lib.hid (ahead_len G k)
  have hEs := endAt_succ G k hkl
  have hEm := endAt_mono G (k + 1) G.length hkl
  rw [endAt_all] at hEm
  obtain ⟨be, oe, rfl, hbel, hce⟩ := HSE.out.cell (by omega)
  have hcek := hce k hkl 0 _ rfl
  rw [endsL_at G k hkl, hEs, Nat.mul_one, Nat.add_zero] at hcek
  obtain ⟨bp, op, rfl, hbpl, hcp2⟩ := HSP.out.at (by omega)
  have hcpk := hcp2 k hkl
  have hpl := (HSP.out.each k hkl).1.len
  have hplt := (HSP.out.each k hkl).1.lt
  have HSCA := Lib.hid (scan_flat G HGG.out)
  have HSCT := Lib.hid (fun Q q t B (h : Bu (G.getD k []) Q q 32 t B) (hq : q ≤ 8 * (G.getD k []).length) (ht : t ≠ 0) => scan_turned G HGG.out k hkl Q q t B h hq ht)
  have HTK : Hid ((G.take k).length = k) := Lib.hid (by rw [List.length_take]; omega)
  generalize hPe : G.getD k [] = P at *
  generalize hHe : H.getD k hd0 = hq at *
  obtain ⟨hq1, hq2, hq3⟩ := hq
  replace hcpk : w1.cell? ⟨bp, op + k, none⟩ = some (.slice hq1 hq2 hq3) := hcpk
  replace hpl : P.length = hq2 := hpl
  rw [hpl] at hcek hEs hPb
  have HPL := Lib.hid hpl
  have HPLT := Lib.hid hplt
  generalize hE : endAt G k = E at *
  generalize hF : E + 6 = F at *
  rw [show E + (6 + hq2) = F + hq2 by omega] at hcek hEs
  rw [hEs] at hEm
  have HF := Lib.hid hF
  clear hce hcp2 hplt hpl hEs hE hPe hHe hF
  have HFP : Hid ((flat G).length = (flat G).length) := Lib.hid rfl
  have hqq : (F : Int) + (hq2 : Int) - (hq2 : Int) = (F : Int) := by omega
  have hF6 : 6 ≤ F := by have := HF.out; omega
  have hnaF : F + hq2 ≤ (flat G).length := hEm
  generalize hna : (flat G).length = nA at *
  generalize hngn : G.length = nG at *
  have HNA := Lib.hid hna
  have HNG := Lib.hid hngn
  clear hna hngn HFP hEm
  have x0 := block_cell (j := 0) HX1.out (v := .int .u8 (tf : Int)) rfl
  have hcF : (((F + hq2 : Nat)) : Int) = (F : Int) + (hq2 : Int) := by omega
  rw [hcF] at hcek
  clear hcF
  go_wp2_with fail
  go_quiet (fail)
  have HCE := Lib.hid hcek
  clear x0 hcek hcpk
  have HO : Hid (∀ q, Row ((w1.drewN q).alloc (.cells #[] 5)) (.slice (some ⟨w1.heap.size, 0, none⟩) 0 0) 0 []) := Lib.hid fun q => own_none (w1.drewN q)
  have HBQ : Hid (∀ q, Below w1.heap.size w1 ((w1.drewN q).alloc (.cells #[] 5))) := Lib.hid fun q => (below_drewN (Below.refl _ _) q).alloc (Nat.le_refl _) _
  have HSQ : Hid (∀ q, Sl ((w1.drewN q).alloc (.cells #[] 5)) pa nA ca (flat G)) := Lib.hid fun q => HSA.out.later (HBQ.out q)
  go_wp2_with (at_builtin; refine wpList_append_row rfl _ _ rfl _ _ [] rfl (HO.out _) _ _ _ (flat G) rfl (HSQ.out _) (by omega) ?_)
  intro v2 w2 hr hc hk
  have hrow : w2.ownsRow 0 5 1 v2 nA (vL (flat G)) := hr.own
  obtain ⟨g, cb, hu, hg0, hg1⟩ := hrow.form (by omega)
  subst hu
  have hgw : w1.heap.size ≤ g := by
    rcases hk g rfl with h | h
    · simp [Value.ownBlock] at h
      omega
    · first | omega | exact Nat.le_trans (HBQ.out _).size h
  have HBR : Hid (Below w1.heap.size w1 w2) := Lib.hid (hc.below (HBQ.out _) (HBQ.out _).size fun k hk => by simp [Value.ownBlock] at hk; omega)
  have HROW : Hid (w2.ownsRow 0 5 1 (.slice (some ⟨g, 0, none⟩) nA cb) nA (vL (ahead G k ++ (P ++ flat (G.drop (k + 1)))))) := Lib.hid (by rw [← HFL.out]; exact hrow)
  have HBU : Hid (∀ q, Bu P P q 0 0 0) := Lib.hid fun q => Bu.start P HPLT.out q
  clear hr hc hk hrow hg0 HO HBQ HSQ
  obtain ⟨q, HQ, hq⟩ : ∃ q : Nat, (ta : Int) % (8 * (hq2 : Int)) = (q : Int) ∧ q < 8 * hq2 := by
    have h0 := Int.emod_nonneg (ta : Int) (show (8 * (hq2 : Int)) ≠ 0 by omega)
    have h1 := Int.emod_lt_of_pos (ta : Int) (show (0 : Int) < 8 * (hq2 : Int) by omega)
    exact ⟨((ta : Int) % (8 * (hq2 : Int))).toNat, by omega, by omega⟩
  replace HQ := Lib.hid HQ
  have hcek2 := (HBR.out.cell (p := ⟨be, oe + k, none⟩) hbel).trans HCE.out
  have hbig1 : ¬ ((nA : Int) < (F : Int) + (hq2 : Int)) := by omega
  have hbig2 : ¬ ((F : Int) < 6) := by omega
  go_wp2_with fail
  clear hcek2
  go_loopw [12, 13] (fun vt vi wr => ∃ i t B : Nat, ∃ Q : List Nat, vt = .int .i64 (t : Nat) ∧ vi = .int .i64 (i : Nat) ∧ i ≤ 32 ∧ t ≤ i ∧ Hid (wr.ownsRow 0 5 1 (.slice (some ⟨g, 0, none⟩) nA cb) nA (vL (ahead G k ++ (Q ++ flat (G.drop (k + 1)))))) ∧ Hid (Below w1.heap.size w1 wr) ∧ Hid (Bu P Q q i t B)) (fun _ vi _ => 32 - (intOf vi).toNat)
  case atStart => exact ⟨0, 0, 0, P, rfl, rfl, by omega, by omega, HROW, HBR, Lib.hid (HBU.out q)⟩
  case round =>
    obtain ⟨i, t, B, Q, rfl, rfl, hi, ht, HO2, HB2, HH⟩ := hrel
    have x1 := block_cell (j := 1) (block_later HX1.out HB2.out) (v := .int .u16 (ta : Int)) rfl
    have x2 := block_cell (j := 2) (block_later HX1.out HB2.out) (v := .int .u32 (A : Int)) rfl
    by_cases hlt : i < 32
    · have hQ := HQ.out
      obtain ⟨kk, hkk⟩ : ∃ kk, kk = q + i := ⟨_, rfl⟩
      have hki : (q : Int) + (i : Int) = (kk : Int) := by omega
      have hkl2 : kk < 8 * hq2 + 32 := by omega
      replace hkk := Lib.hid hkk
      have hand := u32_and_nat (A / 2 ^ i) 1 (Nat.lt_of_le_of_lt (Nat.div_le_self _ _) (by omega)) (by omega)
      rw [Nat.and_one_is_mod] at hand
      have hcast : ((A / 2 ^ i : Nat) : Int) = (A : Int) / 2 ^ i := by simp
      rw [hcast] at hand
      clear hcast
      by_cases hbit : A / 2 ^ i % 2 = 1
      · rw [hbit] at hand
        replace hand : bits .and .u32 ((A : Int) / 2 ^ i) 1 = 1 := hand
        by_cases hin : kk < 8 * hq2
        · have hin2 : (kk : Int) < 8 * (hq2 : Int) := by omega
          obtain ⟨d, hd⟩ : ∃ d, d = kk / 8 := ⟨_, rfl⟩
          obtain ⟨s, hs⟩ : ∃ s, s = kk % 8 := ⟨_, rfl⟩
          obtain ⟨D, hDD⟩ : ∃ D, D = F + d := ⟨_, rfl⟩
          have hd1 : (kk : Int) / 8 = (d : Int) := by omega
          have hs1 : (kk : Int) % 8 = (s : Int) := by omega
          have hD1 : (F : Int) + (d : Int) = (D : Int) := by omega
          have hdm : d < hq2 := by omega
          have hdn : (D : Int) < (nA : Int) := by omega
          have hDn : D < nA := by omega
          have hs8 : s < 8 := by omega
          have hdQ : d < Q.length := by rw [HH.out.len, HPL.out]; exact hdm
          have hAL : (ahead G k).length = F := HAL.out
          have hcell : wr.cell? ⟨g, D, none⟩ = some (.int .u8 ((Q.getD d 0 : Nat) : Int)) := by
            have hlen : (ahead G k ++ (Q ++ flat (G.drop (k + 1)))).length = nA := by have := HO2.out.1; rw [vL_len] at this; omega
            rw [HO2.out.cellAt D (by omega), vL_at _ _ (by omega), hDD, get_mid _ _ _ d F hAL hdQ]
          have hfr := HO2.out.frozenAt D
          have hxor := xor_bit (Q.getD d 0) s (getD_lt HH.out.hQ d) hs8
          obtain ⟨HN, HG2⟩ := HO2.out.stored D (.int .u8 ((Q.getD d 0 ^^^ 2 ^ s : Nat) : Int))
          rw [vL_set, hDD, set_mid _ _ _ d _ F hAL hdQ, ← hDD] at HN
          have HB3 := Lib.hid (HB2.out.setCell (p := ⟨g, D, none⟩) hgw (.int .u8 ((Q.getD d 0 ^^^ 2 ^ s : Nat) : Int)))
          have HM := Lib.hid (HH.out.turn (d := d) (s := s) (by rw [HPL.out]; exact hdm) hs8 (by have := hkk.out; omega))
          replace HN := Lib.hid HN
          clear HG2
          generalize (Q.getD d 0 ^^^ 2 ^ s : Nat) = y at *
          generalize (Q.getD d 0 : Nat) = y0 at *
          replace hd := Lib.hid hd
          replace hs := Lib.hid hs
          replace hDD := Lib.hid hDD
          clear hAL hdQ hdm
          go_wp2_with fail
          go_roundw
          case rel => exact ⟨i + 1, t + 1, B ^^^ 2 ^ i, Q.set d y, by go_num, by go_num, by omega, by omega, HN, HB3, HM⟩
          case measure => simp [intOf]; omega
        · have hin2 : ¬ (kk : Int) < 8 * (hq2 : Int) := by omega
          go_wp2_with fail
          go_roundw
          case rel => exact ⟨i + 1, t, B, Q, rfl, by go_num, by omega, by omega, HO2, HB2, Lib.hid HH.out.skip⟩
          case measure => simp [intOf]; omega
      · rw [show A / 2 ^ i % 2 = 0 by omega] at hand
        replace hand : bits .and .u32 ((A : Int) / 2 ^ i) 1 = 0 := hand
        go_wp2_with fail
        go_roundw
        case rel => exact ⟨i + 1, t, B, Q, rfl, by go_num, by omega, by omega, HO2, HB2, Lib.hid HH.out.skip⟩
        case measure => simp [intOf]; omega
    · obtain rfl : i = 32 := by omega
      have hltall : ∀ x ∈ ahead G k ++ (Q ++ flat (G.drop (k + 1))), x < 256 := by
        intro x hx
        have hall := HSA.out.lt
        rw [HFL.out] at hall
        rcases List.mem_append.1 hx with h | h
        · exact hall x (List.mem_append_left _ h)
        · rcases List.mem_append.1 h with h | h
          · exact HH.out.hQ x h
          · exact hall x (List.mem_append_right _ (List.mem_append_right _ h))
      have hlen : (ahead G k ++ (Q ++ flat (G.drop (k + 1)))).length = nA := by have := HO2.out.1; rw [vL_len] at this; omega
      obtain ⟨p5, c5, hv5, hm5, hs5, _⟩ := (Row.mk hlen hltall HO2.out).sl
      cases hv5
      have hTr := HT.out.later (HB1.out.trans (HB2.out.mono HB1.out.size)) HT.out.lt
      have HSCAN := Lib.hid (scan_any (some ⟨g, 0, none⟩) nA cb _ wr hs5 hm5 (by omega) hTr)
      have HBw := Lib.hid (HB1.out.trans (HB2.out.mono HB1.out.size))
      have HSPr := Lib.hid (HSP.out.later HB2.out)
      clear hTr hs5 hltall hlen x1 x2
      by_cases ht0 : t = 0
      · have e2 : ((t : Int) == 0) = true := by simp [ht0]
        rw [HH.out.same ht0, ← HFL.out, HSCA.out] at HSCAN
        clear ht0
        go_wp2_with fail
        refine HSCAN.out.mono ?_
        rintro e w4 ⟨p4, c4, H4, rfl, hs4, hb4⟩
        replace hs4 : LS w4 p4 G.length c4 H4 G := hs4
        rw [HNG.out] at hs4
        rw [show ((G, nA, (0 : Int)) : List (List Nat) × Nat × Int).1.length = nG from HNG.out]
        have HSAME := Lib.hid (same_ls _ _ _ _ _ _ _ _ _ hs4 (HSPr.out.later hb4) (by omega))
        have HB4 := Lib.hid (HBw.out.trans (hb4.mono HBw.out.size))
        clear hs4 hb4
        go_wp2_with fail
        refine HSAME.out.mono ?_
        rintro e w5 ⟨rfl, hb5⟩
        have HB5 := Lib.hid (HB4.out.trans (hb5.mono HB4.out.size))
        have HT5 := Lib.hid (HT.out.later HB5.out HT.out.lt)
        clear hb5
        go_wp2_with fail
        refine (works10 _ HT5.out).mono ?_
        rintro e w6 ⟨rfl, hb6⟩
        have HB6 := Lib.hid (HB5.out.trans (hb6.mono HB5.out.size))
        clear hb6
        go_wp2_with fail
        go_ret
        exact ⟨rfl, HB6.out⟩
      · have e2 : ((t : Int) == 0) = false := by simpa using ht0
        have hFE : (F : Int) - 6 = (E : Int) := by have := HF.out; omega
        rw [HSCT.out Q q t B HH.out (by rw [HPL.out]; omega) ht0] at HSCAN
        clear ht0
        go_wp2_with fail
        refine HSCAN.out.mono ?_
        rintro e w4 ⟨p4, c4, H4, rfl, hs4, hb4⟩
        replace hs4 : LS w4 p4 (G.take k).length c4 H4 (G.take k) := hs4
        rw [HTK.out] at hs4
        rw [show ((G.take k, E, (9 : Int)) : List (List Nat) × Nat × Int).1.length = k from HTK.out]
        have HSAME := Lib.hid (same_ls _ _ _ _ _ _ _ _ _ hs4 ((HSPr.out.later hb4).take k (by omega)) (by omega))
        have HB4 := Lib.hid (HBw.out.trans (hb4.mono HBw.out.size))
        clear hs4 hb4
        go_wp2_with fail
        refine HSAME.out.mono ?_
        rintro e w5 ⟨rfl, hb5⟩
        have HB5 := Lib.hid (HB4.out.trans (hb5.mono HB4.out.size))
        have HT5 := Lib.hid (HT.out.later HB5.out HT.out.lt)
        clear hb5
        go_wp2_with fail
        refine (works10 _ HT5.out).mono ?_
        rintro e w6 ⟨rfl, hb6⟩
        have HB6 := Lib.hid (HB5.out.trans (hb6.mono HB5.out.size))
        clear hb6
        go_wp2_with fail
        go_ret
        exact ⟨rfl, HB6.out⟩

set_option maxRecDepth 100000 in
theorem lifted (os : Os) (started : os.Started) (H : Type) (enc : TypeId × Value → H) :
    ReturnsInHanded {} Tryd.checked os 6 .any (fun w args => (Rows.frameTurnsSpec.pre enc Tryd.prog Tryd.f6 [] false w args ∧ laidMetH Tryd.prog Rows.frameTurnsRow.laid w) ∧ sizedMet enc Tryd.prog Tryd.f6 (OpenSpec.ofChange Rows.frameTurnsSpec) false w args) (Rows.frameTurnsSpec.post enc Tryd.prog Tryd.f6 false true false false) := by
  refine returnsInHanded_of_change_and (C := Tryd.checked) (X := fun w _ => laidMetH Tryd.prog Rows.frameTurnsRow.laid w) (fun _ _ _ hh h => h.of_heap hh) own started (by kernel_rfl) Tryd.func6
    (ChangeSpec.witness_shaped (enc := enc) (C := Tryd.checked) (os := os) (X := fun w _ => laidMetH Tryd.prog Rows.frameTurnsRow.laid w) false (World.doorLaid Tryd.prog 400 os) #[.slice none 0 0, .agg #[.int .u8 0, .int .u16 0, .int .u32 0]] 8 rfl (World.shaped_of_RefB (by kernel_rfl) (by kernel_rfl)) (by kernel_rfl) (by kernel_rfl) (by kernel_rfl) (door_met os _)) ?_
  intro W base args ds gs before hval0 hW _ _ hL _
  have hval : ∀ (j : Nat) t v, Tryd.f6.params[j]? = some t → args[j]? = some v → Value.okWide Tryd.prog W .any base t v := hval0
  have hW' := hW
  obtain ⟨p, q, hA0, hV, rfl, hfz, hnd⟩ := hW
  have hA : DataW.TrodAll enc Tryd.prog W 0 (fun _ => true) true Tryd.f6.params.toList args.toList ds p := hA0
  rw [Tryd.params6] at hA hval
  obtain ⟨v0, vs0, d0, ds0, p0, q0, hargs, rfl, rfl, h0, r0⟩ := trodAll_cons hA
  obtain ⟨v1, vs1, d1, ds1, p1, q1, rfl, rfl, rfl, h1, r1⟩ := trodAll_cons r0
  obtain ⟨rfl, rfl, rfl⟩ := trodAll_nil r1
  obtain rfl : args = #[v0, v1] := by cases args; simp_all
  obtain ⟨rfl, rfl⟩ := trodVars_none hV
  obtain ⟨a0, len0, cap0, rfl⟩ := okWide_slice Tryd.underlying35 (hval 0 35 v0 rfl rfl)
  have k0 := h0
  have lt0 : ∀ x ∈ p0, x.block < W.heap.size := by obtain ⟨m, hm⟩ := k0; exact DataW.trod_lt m _ _ _ hm
  obtain ⟨L0, w0⟩ : ∃ L, LSx W a0 len0 cap0 L ∧ ∀ y ∈ L, AnyL y := by
    obtain ⟨fuel, hf⟩ := h0
    exact open_lists hf
  have k1 := h1
  have lt1 : ∀ x ∈ p1, x.block < W.heap.size := by obtain ⟨m, hm⟩ := k1; exact DataW.trod_lt m _ _ _ hm
  obtain ⟨a1, rfl, w1⟩ := open_turn (hval 1 49 v1 rfl rfl) h1
  clear hA0 hval0
  refine (walk a0 len0 cap0 L0 a1 W (of_laid hL) w0 w1).mono fun e W' ⟨he, bel⟩ => ?_
  subst he
  exact ⟨_, rfl, _, _, _, [], _, [], hW', trodAll_mk1 (shut_bool Tryd.underlying4 _), (trodAll_cons_mk (Below.trod laidOut (by kernel_rfl) (of_decide_eq_true (by kernel_rfl)) k0 bel lt0) (trodAll_cons_mk (Below.trod laidOut (by kernel_rfl) (of_decide_eq_true (by kernel_rfl)) k1 bel lt1) trodAll_mk0)), rfl, bel.frame _, fun h => by cases h⟩

theorem over : Rows.frameTurnsRow.holds Tryd.pinned (OpenSpec.ofChange Rows.frameTurnsSpec) :=
  OpenClaim.holds_of_wide 6 Tryd.f6 rfl rfl rfl rfl rfl rfl rfl ⟨rfl, rfl, rfl, rfl, rfl⟩ rfl rfl rfl rfl rfl (by kernel_rfl) Tryd.func6 (by kernel_rfl)
    (of_decide_eq_true (by kernel_rfl)) (by unfold Func.isWrapper; first | (rw [if_pos (by decide +kernel)]; kernel_rfl) | (rw [if_neg (by decide +kernel)]; exact ⟨rfl, rfl⟩))
    (fun os started H enc _ => lifted os started H enc)

theorem proved : Rows.FrameTurnsCardSaid :=
  Claim7.holds_tied_plain_at .later [] [.data] true (true, "d36817a9d16adbc17b84dc019426f98c1e002323e2666b27882a76a3de946b2b") false
    over (fun _ h => by cases h) (by kernel_rfl) (fun _ h => by cases h) frameTurns_row_tie rfl ⟨rfl, rfl⟩ (by kernel_rfl) rfl
    (fun f fn hf hfn => by
      obtain rfl : f = 6 := Option.some.inj ((show Tryd.prog.funcNamed "pledge/pledgelaw10.FrameTurns" = some 6 by kernel_rfl).symm.trans hf) |>.symm
      obtain rfl : fn = Tryd.f6 := (Option.some.inj (Tryd.func6.symm.trans hfn)).symm
      exact ⟨by kernel_rfl, fun j t ht => by
        rw [Tryd.params6] at ht
        have hm : t ∈ [35, 35, 49] := by simpa using Array.mem_of_getElem? ht
        have hall : ([35, 35, 49].all fun u => !Tryd.prog.wantsStandIn u) = true := by kernel_rfl
        exact (show Tryd.prog.wantsStandIn t = false by simpa using List.all_eq_true.1 hall t hm)⟩)
    (by kernel_rfl)
#print axioms proved
end Go.Proofs.YtmadneedeheekaaDoor.frameTurns
