/- What additions come to: the document's way. -/
import Derived.Test.YtmjhfohpllndhaaOpRefDeltas
import Derived.Test.YtmjhfohpllndhaaOpRefNeg
import Derived.Test.YtmjhfohpllndhaaKeyWith
import Derived.Test.YtmjhfohpllndhaaCalcRows
namespace Go.Proofs.Ytmjhfohpllndhaa
open Go.RowKit Go.ChangeShapes Go.WideShapes
set_option linter.unusedVariables false

theorem GivesOB.since {W W2 : World} {V : List O} {ok : Bool} {e : Ending} {w' : World} (h : GivesOB W2 V ok e w') (hb : Below W.heap.size W W2) : GivesOB W V ok e w' := by
  obtain ⟨p, c, rfl, hs, hb2, hp⟩ := h
  exact ⟨p, c, rfl, hs, hb.trans (hb2.mono hb.size), fun a ha => Nat.le_trans hb.size (hp a ha)⟩
/-- The keys of the first j additions. -/
def keysTo (L : List O) (j : Nat) : List K := setL ((L.take j).map (·.1))
theorem keysTo_step (L : List O) (j : Nat) (h : j < L.length) : keysTo L (j + 1) = withL (keysTo L j) (L.getD j o0).1 := by
  unfold keysTo setL
  rw [with_ins, List.take_add_one, List.getElem?_eq_getElem h, Option.toList_some, List.map_append, List.foldl_append]
  simp [List.getD, List.getElem?_eq_getElem h]
theorem keysTo_len (L : List O) (j : Nat) : (keysTo L j).length ≤ j := by
  have := set_len_to ((L.take j).map (·.1)) []
  have h2 : ((L.take j).map (·.1)).length ≤ j := by rw [List.length_map, List.length_take]; omega
  unfold keysTo setL
  rw [List.length_nil] at this
  omega
theorem keysTo_end (L : List O) (n : Nat) (h : L.length = n) : keysTo L n = keysO L := by
  subst h
  unfold keysTo keysO
  rw [List.take_length]
theorem netVt {L : List O} (h : netB L = true) : netV L = netF L (keysO L) := if_pos h
theorem netVf {L : List O} (h : netB L = false) : netV L = [] := by unfold netV; rw [h]; rfl

set_option maxHeartbeats 4000000 in
set_option maxRecDepth 100000 in
theorem refnet_o (p : Option Addr) (n c : Nat) (L : List O) (W : World) (hL : OL W p n c L) (hok : ∀ o ∈ L, Ook o) (hn : n ≤ 10000) :
    Calls Try.prog 8 #[.slice p n c] W (GivesOB W (netV L) (netB L)) := by
  have HL := Lib.hid hL
  have HLN := Lib.hid hL.len
  have HOK := Lib.hid hok
  have HKO := Lib.hid fun j (hj : j < n) => (ok_at hok (show j < L.length by rw [hL.len]; exact hj)).1
  have HST := Lib.hid fun j (hj : j < n) => keysTo_step L j (by rw [hL.len]; exact hj)
  have HKE := Lib.hid (keysTo_end L n hL.len)
  have HKL := Lib.hid fun j => keysTo_len L j
  have hcap := hL.cap
  clear hL hok
  go_enter Try.func8, Try.ntmps8
  go_wp2_with fail
  go_loopw [4, 5] (fun v i wr => ∃ (j : Nat) (kp : Option Addr) (m kc : Nat), j ≤ n ∧ i = .int .i64 (j : Nat) ∧ v = .slice kp m kc ∧ m ≤ j ∧ Hid (KL wr kp m kc (keysTo L j)) ∧ Hid (Below W.heap.size W wr)) (fun _ i _ => n - (intOf i).toNat)
  case atStart => exact ⟨0, none, 0, 0, Nat.zero_le _, rfl, rfl, Nat.le_refl _, Lib.hid (KL.empty W), Lib.hid (Below.refl _ _)⟩
  case round =>
    obtain ⟨j, kp, m, kc, hj, rfl, rfl, hmj, HK, HB⟩ := hrel
    by_cases hlt : j < n
    · have hlt' : (j : Int) < n := by omega
      obtain ⟨b, off, rfl, _, c0, c1, c2, c3⟩ := op_cells (HL.out.later HB.out) hlt
      have hkk := HKO.out j hlt
      have hst := HST.out j hlt
      generalize L.getD j o0 = x at *
      have hw := with_any kp m kc (keysTo L j) x.1 hkk wr HK.out (by omega)
      rw [← hst] at hw
      have hl1 := HKL.out (j + 1)
      have HL1 := Lib.hid hl1
      clear hst hkk hl1
      go_wp2_with fail
      refine hw.mono ?_
      rintro e w2 ⟨p2, c2', rfl, hk2, hb2⟩
      have HB2 := Lib.hid (HB.out.trans (hb2.mono HB.out.size))
      have HK2 := Lib.hid hk2
      clear hw hb2 hk2 c0 c1 c2 c3
      go_wp2_with fail
      go_roundw
      case rel => exact ⟨j + 1, p2, _, c2', by omega, by go_num, rfl, HL1.out, HK2, HB2⟩
      case measure => simp [intOf]; omega
    · obtain rfl : j = n := by omega
      have hkk := HK.out
      rw [HKE.out] at hkk
      have hm := hkk.len
      have hkc := hkk.cap
      have HKK := Lib.hid hkk
      have HLW := Lib.hid (HL.out.later HB.out)
      have HFT := Lib.hid fun i (hi : i < (keysO L).length) => netF_take L (keysO L) i hi
      have HOT := Lib.hid fun i (hi : i < (keysO L).length) => netOk_take L (keysO L) i hi
      have HOF := Lib.hid fun i (hi : i < (keysO L).length) => netOk_false L (keysO L) i hi
      have HAT := Lib.hid fun i => netF_len L ((keysO L).take i)
      have HSK := Lib.hid (set_ok HOK.out)
      have HDI := Lib.hid fun k => dsL_in HOK.out k
      have HDN : Hid (∀ k, (dsL L k).length ≤ j) := Lib.hid fun k => by rw [← HLN.out]; exact dsL_len L k
      clear hkk HK HL HST HKE HKL
      generalize hS : keysO L = S at *
      have HS := Lib.hid hS
      have HSL := Lib.hid hm
      rw [hm] at HFT HOT HOF
      clear hS hm
      go_wp2_with fail
      obtain ⟨W1, hW1⟩ : ∃ W1, W1 = wr := ⟨_, rfl⟩
      subst hW1
      go_loopw [6, 7] (fun v i wq => ∃ t : Nat, t ≤ m ∧ i = .int .i64 (t : Nat) ∧ Hid (FillO W1 wq v (netF L (S.take t)) t) ∧ Hid (netOk L (S.take t) = true)) (fun _ i _ => m - (intOf i).toNat)
      case atStart => exact ⟨0, Nat.zero_le _, rfl, Lib.hid (FillG.nil W1), Lib.hid rfl⟩
      case round =>
        obtain ⟨t, ht, rfl, HF, HO⟩ := hrel
        by_cases hlt2 : t < m
        · have hlt' : (t : Int) < m := by omega
          have HKC : Hid (∀ w', Below W1.heap.size W1 w' → ∃ kb off, kp = some ⟨kb, off, none⟩ ∧ w'.cell? ⟨kb, off + t * 3, none⟩ = some (.int .u8 (S.getD t (0, 0, 0)).1) ∧ w'.cell? ⟨kb, off + t * 3 + 1, none⟩ = some (.int .u8 (S.getD t (0, 0, 0)).2.1) ∧ w'.cell? ⟨kb, off + t * 3 + 2, none⟩ = some (.int .u8 (S.getD t (0, 0, 0)).2.2)) := Lib.hid fun w' hb => by
            obtain ⟨kb, off, h1, h2⟩ := (HKK.out.later hb).cell (by omega)
            exact ⟨kb, off, h1, h2 t hlt2⟩
          obtain ⟨kb, off, rfl, c0, c1, c2⟩ := HKC.out _ HF.out.below
          have hft := HFT.out t hlt2
          have hot := HOT.out t hlt2
          have hof := HOF.out t hlt2
          generalize S.getD t (0, 0, 0) = k at *
          have HFT1 := Lib.hid hft
          have HOT1 := Lib.hid hot
          have HOF1 := Lib.hid hof
          have hde := deltas_all p j c L k wr (HLW.out.later HF.out.below) (by omega) 0 rfl
          rw [dsS_all] at hde
          clear hft hot hof
          go_wp2_with fail
          refine hde.mono ?_
          rintro e w2 ⟨dp, dc, rfl, hds, hb2, _⟩
          have hsum := rsum_of dp (dsL L k).length dc (dsL L k) w2 (IL.row hds (HDI.out k)) (by have := HDN.out k; omega)
          have HF2 := Lib.hid (HF.out.later hb2)
          clear hde hds hb2 c0 c1 c2 HF
          by_cases hin : In64 (total (dsL L k))
          · rw [val_in _ hin, okB_in _ hin] at hsum
            have HIN : Hid (okB (sumO L k) = true) := Lib.hid (okB_in _ hin)
            clear hin
            by_cases h0 : total (dsL L k) = 0
            · have HN : Hid (netF L (S.take (t + 1)) = netF L (S.take t)) := Lib.hid (by rw [HFT1.out, if_pos (show sumO L k = 0 from h0)])
              rw [h0] at hsum
              clear h0
              generalize (dsL L k).length = dl at *
              go_wp2_with fail
              refine hsum.mono ?_
              rintro e w3 ⟨rfl, hb3⟩
              have HF3 := Lib.hid (HF2.out.later hb3)
              clear hsum hb3
              go_wp2_with fail
              go_roundw
              case rel => exact ⟨t + 1, by omega, by go_num, Lib.hid (by rw [HN.out]; exact HF3.out.mono (by omega)), Lib.hid (by rw [HOT1.out, HO.out, HIN.out]; rfl)⟩
              case measure => simp [intOf]; omega
            · have HN : Hid (netF L (S.take (t + 1)) = netF L (S.take t) ++ [(k, total (dsL L k))]) := Lib.hid (by rw [HFT1.out, if_neg (show ¬ sumO L k = 0 from h0)]; rfl)
              have h0' : (total (dsL L k) != 0) = true := by simpa using h0
              clear h0
              generalize total (dsL L k) = y at *
              generalize (dsL L k).length = dl at *
              go_wp2_with fail
              refine hsum.mono ?_
              rintro e w3 ⟨rfl, hb3⟩
              have HF3 := Lib.hid (HF2.out.later hb3)
              clear hsum hb3
              have hmost := HF3.out.most
              have hszk := HF3.out.below.size
              obtain ⟨kb2, off2, he, c0, c1, c2⟩ := HKC.out _ HF3.out.below
              cases he
              go_wp2_with (at_builtin; refine wpList_append_o rfl _ _ rfl W1.heap.size _ (netF L (S.take t)).length (netF L (S.take t)) rfl (HF3.out.own.alloc _) (by omega) (k, y) w3.heap.size rfl (op_news w3 (k, y)) (by simp; omega) ?_; intro v2 w4 h1 h2)
              have HF4 := Lib.hid (HF3.out.step _ h1 h2)
              clear h1 h2
              go_wp2_with fail
              go_roundw
              case rel => exact ⟨t + 1, by omega, by go_num, Lib.hid (by rw [HN.out]; exact HF4.out), Lib.hid (by rw [HOT1.out, HO.out, HIN.out]; rfl)⟩
              case measure => simp [intOf]; omega
          · rw [val_out _ hin, okB_out _ hin] at hsum
            have HNB : Hid (netB L = false) := Lib.hid (by unfold netB; rw [HS.out]; exact HOF1.out (okB_out _ hin))
            clear hin
            generalize (dsL L k).length = dl at *
            go_wp2_with fail
            refine hsum.mono ?_
            rintro e w3 ⟨rfl, hb3⟩
            have HB3 := Lib.hid (HB.out.trans ((HF2.out.later hb3).below.mono HB.out.size))
            clear hsum hb3
            go_wp2_with fail
            go_ret2
            rw [HNB.out, netVf HNB.out]
            exact givesOB_none HB3.out
        · obtain rfl : t = m := by omega
          have HNB : Hid (netB L = true) := Lib.hid (by
            have := HO.out
            rw [List.take_of_length_le (by rw [HSL.out]; exact Nat.le_refl _), ← HS.out] at this
            exact this)
          go_wp2_with fail
          go_ret2
          rw [HNB.out, netVt HNB.out, HS.out]
          have := HF.out
          rw [List.take_of_length_le (by rw [HSL.out]; exact Nat.le_refl _)] at this
          exact this.givesB.since HB.out
end Go.Proofs.Ytmjhfohpllndhaa
