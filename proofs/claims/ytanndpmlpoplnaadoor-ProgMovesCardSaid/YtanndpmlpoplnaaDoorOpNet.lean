/- What additions come to: the program's way. -/
import Derived.Test.YtanndpmlpoplnaaDoorOpGather
import Derived.Test.YtanndpmlpoplnaaDoorOpIter
import Derived.Test.YtanndpmlpoplnaaDoorGrOp
namespace Go.Proofs.YtanndpmlpoplnaaDoor
open Go.RowKit Go.ChangeShapes Go.WideShapes Go.Maps
set_option linter.unusedVariables false

theorem keys_sorted {n0 : Nat} {w : World} {b : Nat} {D : DataW Sv} {z : K → Nat × Nat} {L : List O} (h : Gth n0 w b D z L) (hok : ∀ o ∈ L, Ook o) (ss : List K) (hs : AllK D ss) : sortL ss = keysO L := by
  refine sortL_setL ss hs.1 (L.map (·.1)) fun x => ?_
  have hk : ∀ k, k ∈ L.map (·.1) → Kok k := fun k hk => by
    obtain ⟨o, ho, rfl⟩ := List.mem_map.1 hk
    exact (hok o ho).1
  have key : ∀ x, Kok x → (x ∈ ss ↔ x ∈ L.map (·.1)) := fun x hx => by
    rw [hs.2.2 x hx, h.says.has hx]
    unfold Sof
    by_cases hm : x ∈ L.map (·.1)
    · rw [if_pos hm]; exact ⟨fun _ => hm, fun _ => rfl⟩
    · rw [if_neg hm]; exact ⟨fun e => (by cases e), fun e => absurd e hm⟩
  exact ⟨fun hx => (key x (hs.2.1 x hx)).1 hx, fun hx => (key x (hk x hx)).2 hx⟩
theorem GivesOB.from {W W2 : World} {V : List O} {ok : Bool} {e : Ending} {w' : World} (h : GivesOB W2 V ok e w') (hb : Below W.heap.size W W2) : GivesOB W V ok e w' := by
  obtain ⟨p, c, rfl, hs, hb2, hp⟩ := h
  exact ⟨p, c, rfl, hs, hb.trans (hb2.mono hb.size), fun a ha => Nat.le_trans hb.size (hp a ha)⟩
theorem netV_true {L : List O} (h : netB L = true) : netV L = netF L (keysO L) := if_pos h
theorem netV_false {L : List O} (h : netB L = false) : netV L = [] := by unfold netV; rw [h]; rfl
/-- The sum of what stands at a key. -/
theorem sum_at {n0 : Nat} {w : World} {b : Nat} {D : DataW Sv} {z : K → Nat × Nat} {L : List O} (h : Gth n0 w b D z L) (hok : ∀ o ∈ L, Ook o) (hl : L.length ≤ 100000) {k : K} (hk : Kok k) : ∃ p m c,
    (Instr.lookup 112 (.map (some b)) (.agg #[.int .u8 k.1, .int .u8 k.2.1, .int .u8 k.2.2]) false).run Tryd.prog w = .ok (.slice p m c) w ∧
    ∀ w' : World, Below w.heap.size w w' → Calls Tryd.prog 84 #[.slice p m c] w' fun e w'' => e = .returned (.tuple #[.int .i64 (val (sumO L k)), .bool (okB (sumO L k))]) ∧ w' = w'' := by
  have hlk := look_at h.map h.says hk
  obtain ⟨p0, c0, hsv, hrow, _⟩ := h.at_row k
  rw [hsv] at hlk
  obtain ⟨p, c, he, hs, _⟩ := SlG.of_own (d := 0) ic_len (by decide) hrow
  cases he
  refine ⟨_, _, _, hlk, fun w' hb => ?_⟩
  have hd := dsL_len L k
  exact sum_of _ _ _ (dsL L k) w' (IL.row (hs.later hb) (dsL_in hok k)) (by omega)

set_option maxHeartbeats 2000000 in
set_option maxRecDepth 100000 in
theorem net_o (p : Option Addr) (n c : Nat) (L : List O) (W : World) (hL : OL W p n c L) (hok : ∀ o ∈ L, Ook o) (hn : n ≤ 10000) :
    Calls Tryd.prog 26 #[.slice p n c] W (GivesOB W (netV L) (netB L)) := by
  have hg := gather_o p n c L W hL hok (by omega)
  have HOK := Lib.hid hok
  have HLL : Hid (L.length ≤ 10000) := Lib.hid (by rw [hL.len]; exact hn)
  have hkl := keys_len L
  have HKL : Hid ((keysO L).length ≤ 10000) := Lib.hid (Nat.le_trans hkl HLL.out)
  have HSK := Lib.hid (set_ok hok)
  have HFT := Lib.hid fun j (hj : j < (keysO L).length) => netF_take L (keysO L) j hj
  have HOT := Lib.hid fun j (hj : j < (keysO L).length) => netOk_take L (keysO L) j hj
  have HOF := Lib.hid fun j (hj : j < (keysO L).length) => netOk_false L (keysO L) j hj
  have HAT := Lib.hid fun j => netF_len L ((keysO L).take j)
  clear hL hok hkl
  go_enter Tryd.func26, Tryd.ntmps26
  go_wp2_with fail
  refine hg.mono ?_
  rintro e W1 ⟨b, D, z, rfl, hG, hb1⟩
  have hks := okeys_any W1 b L.length D (keysO L) hG.map (by have := HLL.out; omega) (by have := HKL.out; omega) (fun ss hs => keys_sorted hG HOK.out ss hs) 105 rfl
  have hbm : Below W1.heap.size W1 (W1.alloc (.cells #[.map (some b)] 112)) := (Below.refl _ _).alloc (Nat.le_refl _) _
  have HG1 := Lib.hid (hG.later hbm)
  have HB1 := Lib.hid (hb1.trans (hbm.mono hb1.size))
  clear hg hG hb1 hbm
  go_wp2_with fail
  refine (mkeys_any _ _).mono ?_
  rintro e w' ⟨rfl, rfl⟩
  generalize W1.alloc (.cells #[.map (some b)] 112) = Wm at *
  go_wp2_with fail
  refine hks.mono ?_
  rintro e W2 ⟨kp, kc, rfl, hk, hb2, hkp⟩
  have HG2 := Lib.hid (HG1.out.later hb2)
  have HB2 := Lib.hid (HB1.out.trans (hb2.mono HB1.out.size))
  have HK2 := Lib.hid hk
  have hkc := hk.cap
  clear hks hk hb2 hkp HG1 HB1
  generalize hS : keysO L = S at *
  have HS := Lib.hid hS
  generalize hs : S.length = s at *
  have HSL := Lib.hid hs
  clear hS hs
  have hs4 := HKL.out
  go_wp2_with fail
  go_loopw [4, 16] (fun v i wr => ∃ j : Nat, j ≤ s ∧ i = .int .i64 (j : Nat) ∧ Hid (FillO W2 wr v (netF L (S.take j)) j) ∧ Hid (netOk L (S.take j) = true)) (fun _ i _ => s - (intOf i).toNat)
  case atStart => exact ⟨0, Nat.zero_le _, rfl, Lib.hid (FillG.nil W2), Lib.hid rfl⟩
  case round =>
    obtain ⟨j, hj, rfl, HF, HO⟩ := hrel
    by_cases hlt : j < s
    · have hlt' : (j : Int) < s := by omega
      obtain ⟨kb, off, rfl, hcell⟩ := (HK2.out.later HF.out.below).cell (by omega)
      obtain ⟨c0, c1, c2⟩ := hcell j hlt
      have hkk := Kok.getD HSK.out j
      have hft := HFT.out j hlt
      have hot := HOT.out j hlt
      have hof := HOF.out j hlt
      generalize S.getD j (0, 0, 0) = k at *
      have HFT1 := Lib.hid hft
      have HOT1 := Lib.hid hot
      have HOF1 := Lib.hid hof
      have hbk : Below wr.heap.size wr (wr.alloc (.cells #[.int .u8 k.1, .int .u8 k.2.1, .int .u8 k.2.2] 56)) := (Below.refl _ _).alloc (Nat.le_refl _) _
      obtain ⟨sp, sm, sc, hlook, hsum⟩ := sum_at ((HG2.out.later HF.out.below).later hbk) HOK.out (by have := HLL.out; omega) hkk
      have HSUM := Lib.hid hsum
      have hx : Hid ((wr.alloc (.cells #[.int .u8 k.1, .int .u8 k.2.1, .int .u8 k.2.2] 56)).heap[wr.heap.size]? = some (.cells #[.int .u8 k.1, .int .u8 k.2.1, .int .u8 k.2.2] 56 (0, 0))) := Lib.hid (alloc_block wr _)
      have HF1 := Lib.hid (HF.out.later hbk)
      have hsz1 : (wr.alloc (.cells #[.int .u8 k.1, .int .u8 k.2.1, .int .u8 k.2.2] 56)).heap.size = wr.heap.size + 1 := by simp
      have hszr := HF.out.below.size
      clear hcell hkk hft hot hof hsum hbk
      have hsum1 := HSUM.out _ (Below.refl _ _)
      go_wp2_with fail
      generalize hq : wr.alloc (.cells #[.int .u8 k.1, .int .u8 k.2.1, .int .u8 k.2.2] 56) = Wk at *
      have HXX := Lib.hid hx.out
      have x0 := block_cell (j := 0) hx.out rfl
      have x1 := block_cell (j := 1) hx.out rfl
      have x2 := block_cell (j := 2) hx.out rfl
      clear hx HSUM hlook hq hsz1 hszr
      by_cases hin : In64 (sumO L k)
      · rw [val_in _ hin, okB_in _ hin] at hsum1
        have HIN := Lib.hid (okB_in _ hin)
        clear hin
        by_cases h0 : sumO L k = 0
        · rw [h0] at hsum1
          have HN : Hid (netF L (S.take (j + 1)) = netF L (S.take j)) := Lib.hid (by rw [HFT1.out, if_pos h0])
          clear h0
          refine hsum1.mono ?_
          rintro e w' ⟨rfl, rfl⟩
          clear hsum1
          go_wp2_with fail
          go_roundw
          case rel => exact ⟨j + 1, by omega, by go_num, Lib.hid (by rw [HN.out]; exact HF1.out.mono (by omega)), Lib.hid (by rw [HOT1.out, HO.out, HIN.out]; rfl)⟩
          case measure => simp [intOf]; omega
        · have HN : Hid (netF L (S.take (j + 1)) = netF L (S.take j) ++ [(k, sumO L k)]) := Lib.hid (by rw [HFT1.out, if_neg h0])
          have h0' : (sumO L k != 0) = true := by simpa using h0
          clear h0
          refine hsum1.mono ?_
          rintro e w' ⟨rfl, rfl⟩
          clear hsum1
          generalize sumO L k = y at *
          have hmost := HF1.out.most
          have hszk := HF1.out.below.size
          go_wp2_with (at_builtin; refine wpList_append_o rfl _ _ rfl W2.heap.size _ (netF L (S.take j)).length (netF L (S.take j)) rfl (HF1.out.own.alloc _) (by omega) (k, y) Wk.heap.size rfl (op_news Wk (k, y)) (by simp; omega) ?_; intro v2 w2 h1 h2)
          have HF2 := Lib.hid (HF1.out.step _ h1 h2)
          clear h1 h2
          go_wp2_with fail
          go_roundw
          case rel => exact ⟨j + 1, by omega, by go_num, Lib.hid (by rw [HN.out]; exact HF2.out), Lib.hid (by rw [HOT1.out, HO.out, HIN.out]; rfl)⟩
          case measure => simp [intOf]; omega
      · rw [val_out _ hin, okB_out _ hin] at hsum1
        have HNB : Hid (netB L = false) := Lib.hid (by unfold netB; rw [HS.out]; exact HOF1.out (okB_out _ hin))
        clear hin
        refine hsum1.mono ?_
        rintro e w' ⟨rfl, rfl⟩
        clear hsum1
        go_wp2_with fail
        go_ret2
        rw [HNB.out, netV_false HNB.out]
        exact givesOB_none (HB2.out.trans (HF1.out.below.mono HB2.out.size))
    · obtain rfl : j = s := by omega
      have HNB : Hid (netB L = true) := Lib.hid (by
        have := HO.out
        rw [List.take_of_length_le (by rw [HSL.out]; exact Nat.le_refl _), ← HS.out] at this
        exact this)
      go_wp2_with fail
      go_ret2
      rw [HNB.out, netV_true HNB.out, HS.out]
      have := HF.out
      rw [List.take_of_length_le (by rw [HSL.out]; exact Nat.le_refl _)] at this
      exact GivesOB.from this.givesB HB2.out
end Go.Proofs.YtanndpmlpoplnaaDoor
