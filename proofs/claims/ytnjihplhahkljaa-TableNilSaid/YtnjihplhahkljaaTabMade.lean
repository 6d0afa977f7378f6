/- A table behind some acts, and its rows. -/
import Derived.Test.YtnjihplhahkljaaTabSame
namespace Go.Proofs.Ytnjihplhahkljaa
open Go.RowKit Go.ChangeShapes Go.WideShapes
set_option linter.unusedVariables false

abbrev Ac := K × Int × Bool
abbrev a0 : Ac := ((0, 0, 0), 0, false)
/-- An act's cells. -/
def ac (a : Ac) : List Value := [.int .u8 a.1.1, .int .u8 a.1.2.1, .int .u8 a.1.2.2, .int .i64 a.2.1, .bool a.2.2]
abbrev AL (w : World) (p : Option Addr) (n c : Nat) (L : List Ac) : Prop := SlG ac 5 a0 w p n c L
def Aok (a : Ac) : Prop := Kok a.1 ∧ (Lit.int .i64 a.2.1).wf = true
theorem act_cells {w : World} {p : Option Addr} {n c : Nat} {L : List Ac} (h : AL w p n c L) {j : Nat} (hj : j < n) : ∃ b off, p = some ⟨b, off, none⟩ ∧ b < w.heap.size ∧ w.cell? ⟨b, off + j * 5, none⟩ = some (.int .u8 (L.getD j a0).1.1) ∧ w.cell? ⟨b, off + j * 5 + 1, none⟩ = some (.int .u8 (L.getD j a0).1.2.1) ∧ w.cell? ⟨b, off + j * 5 + 2, none⟩ = some (.int .u8 (L.getD j a0).1.2.2) ∧ w.cell? ⟨b, off + j * 5 + 3, none⟩ = some (.int .i64 (L.getD j a0).2.1) ∧ w.cell? ⟨b, off + j * 5 + 4, none⟩ = some (.bool (L.getD j a0).2.2) := by
  obtain ⟨b, off, rfl, hb, hc⟩ := h.cell (by omega)
  exact ⟨b, off, rfl, hb, hc j hj 0 _ rfl, hc j hj 1 _ rfl, hc j hj 2 _ rfl, hc j hj 3 _ rfl, hc j hj 4 _ rfl⟩
theorem len_put (M : List Rw) (k : K) (v : Int) : (putM M k v).length ≤ M.length + 1 := by
  have h1 : (putM M k v).length = (insK (keysM M) k).length := by rw [← keys_put k v M, len_keys]
  rw [h1]
  have : ∀ L : List K, (insK L k).length ≤ L.length + 1 := by
    intro L
    induction L with
    | nil => simp [insK]
    | cons x L ih =>
      have hf := List.length_filter_le (fun y => decide (y ≠ k)) (x :: L)
      unfold insK
      split
      · simp only [List.length_cons]; omega
      · simp only [List.length_cons] at *; omega
  have h2 := this (keysM M)
  rwa [len_keys] at h2
theorem len_del_le (M : List Rw) (k : K) : (delM M k).length ≤ M.length := List.length_filter_le _ _
/-- A table and its rows, all of the call's own from n0 on. -/
structure Pair (n0 : Nat) (w : World) (B : Nat) (mb : Option Nat) (M : List Rw) (p : Option Addr) (c : Nat) : Prop where
  tab : Tab w B mb M
  row : RL w p M.length c M
  own : ∀ k, foot B mb k → n0 ≤ k
  apart : 0 < M.length → ∀ a, p = some a → ¬ foot B mb a.block
theorem Pair.later {n0 : Nat} {w w' : World} {B : Nat} {mb : Option Nat} {M : List Rw} {p : Option Addr} {c : Nat} (h : Pair n0 w B mb M p c) (hb : Below w.heap.size w w') : Pair n0 w' B mb M p c :=
  ⟨h.tab.later hb, h.row.later hb, h.own, h.apart⟩
theorem Tab.none_lt {w : World} {B : Nat} {mb : Option Nat} {M : List Rw} (h : Tab w B mb M) (k : Nat) (hk : w.heap.size ≤ k) : ¬ foot B mb k := fun e => by
  have := h.foot_lt k e
  omega
set_option maxRecDepth 100000 in
set_option maxHeartbeats 4000000 in
theorem made_any (W : World) (p : Option Addr) (n c : Nat) (L : List Ac) (hL : AL W p n c L) (hok : ∀ a ∈ L, Aok a) :
    Calls Try.prog 7 #[.slice p n c] W fun e w' => ∃ mb M rp rcap, e = .returned (.tuple #[.pointer (some ⟨W.heap.size, 0, none⟩), .slice rp M.length rcap, .bool true]) ∧ Pair W.heap.size w' W.heap.size mb M rp rcap ∧ M.length ≤ 60 ∧ Below W.heap.size W w' := by
  have HL := Lib.hid hL
  have HOK : Hid (∀ j, j < n → Aok (L.getD j a0)) := Lib.hid fun j hj => by
    rw [List.getD, List.getElem?_eq_getElem (by rw [hL.len]; exact hj)]
    exact hok _ (List.getElem_mem _)
  have hb0 : Below W.heap.size W ((W.alloc (.cells #[.map none] 53)).alloc (.cells #[] 55)) := ((Below.refl _ _).alloc (Nat.le_refl _) _).alloc (by simp) _
  have HB0 := Lib.hid hb0
  have HP0 : Hid (Pair W.heap.size ((W.alloc (.cells #[.map none] 53)).alloc (.cells #[] 55)) W.heap.size none [] (some ⟨W.heap.size + 1, 0, none⟩) 0) := Lib.hid
    ⟨(new_tab W).later ((Below.refl _ _).alloc (Nat.le_refl _) _), ⟨rfl, Nat.le_refl _, by unfold maxLen; omega, (fun h => by cases h), fun h => by simp at h⟩, (fun k hk => by rcases hk with rfl | hk; exact Nat.le_refl _; cases hk), fun h => by simp at h⟩
  clear hL hok hb0
  go_enter Try.func7, Try.ntmps7
  go_wp2_with fail
  refine (new_any _).mono ?_
  rintro e w' ⟨rfl, rfl⟩
  go_wp2_with fail
  generalize (W.alloc (.cells #[.map none] 53)).alloc (.cells #[] 55) = W0 at *
  go_loopw [6, 7, 8] (fun r o i wr => ∃ (j : Nat) (mb : Option Nat) (M : List Rw) (rp : Option Addr) (rcap : Nat), j ≤ n ∧ j ≤ 60 ∧ i = .int .i64 (j : Nat) ∧ o = .bool true ∧ r = .slice rp M.length rcap ∧ M.length ≤ j ∧ Hid (Pair W.heap.size wr W.heap.size mb M rp rcap) ∧ Hid (Below W.heap.size W wr)) (fun _ _ i _ => n - (intOf i).toNat)
  case atStart => exact ⟨0, none, [], _, _, Nat.zero_le _, Nat.zero_le _, rfl, rfl, rfl, Nat.le_refl _, HP0, HB0⟩
  case round =>
    obtain ⟨j, mb, M, rp, rcap, hj, hj60, rfl, rfl, rfl, hM, HP, HB⟩ := hrel
    by_cases hlt : j < n
    · have hlt' : (j : Int) < n := by omega
      by_cases hlt6 : j < 60
      · have hlt6' : (j : Int) < 60 := by omega
        have hxok := HOK.out j hlt
        obtain ⟨b, off, rfl, hbW, _⟩ := act_cells HL.out hlt
        have HCX : Hid (∀ w', Below W.heap.size W w' → w'.cell? ⟨b, off + j * 5, none⟩ = some (.int .u8 (L.getD j a0).1.1) ∧ w'.cell? ⟨b, off + j * 5 + 1, none⟩ = some (.int .u8 (L.getD j a0).1.2.1) ∧ w'.cell? ⟨b, off + j * 5 + 2, none⟩ = some (.int .u8 (L.getD j a0).1.2.2) ∧ w'.cell? ⟨b, off + j * 5 + 3, none⟩ = some (.int .i64 (L.getD j a0).2.1) ∧ w'.cell? ⟨b, off + j * 5 + 4, none⟩ = some (.bool (L.getD j a0).2.2)) := Lib.hid fun w' hb => by
          obtain ⟨b2, off2, he, _, hc⟩ := act_cells (HL.out.later hb) hlt
          cases he
          exact hc
        generalize L.getD j a0 = x at *
        obtain ⟨c0, c1, c2, c3, c4⟩ := HCX.out _ HB.out
        have hg := rget_any rp M.length rcap M x.1 wr HP.out.row (by omega)
        generalize hm : M.length = m at *
        have HMM := Lib.hid hm
        clear hm
        go_wp2_with fail
        refine hg.mono ?_
        rintro e W1 ⟨rfl, hb1⟩
        have HB1 := Lib.hid (HB.out.trans (hb1.mono HB.out.size))
        have HP1 := Lib.hid (HP.out.later hb1)
        clear hg hb1 c0 c1 c2 c3 c4
        obtain ⟨c0, c1, c2, c3, c4⟩ := HCX.out _ HB1.out
        have HXK := Lib.hid hxok.1
        have HXV := Lib.hid hxok.2
        clear hxok HB HP
        cases hgone : x.2.2 with
        | true =>
          rw [hgone] at c4
          have hd := del_any x.1 HXK.out W1 W.heap.size mb M HP1.out.tab
          go_wp2_with fail
          refine hd.mono ?_
          rintro e W2 ⟨rfl, ht2, hu2⟩
          have hb2 : Below W.heap.size W1 W2 := hu2.below HB1.out.size HP1.out.own
          have HB2 := Lib.hid (HB1.out.trans hb2)
          have hr2 : RL W2 rp M.length rcap M := HP1.out.row.turn hu2.size fun h0 a ha hl => hu2.block a.block hl (HP1.out.apart h0 a ha)
          have HT2 := Lib.hid ht2
          have HO := Lib.hid HP1.out.own
          rw [HMM.out] at hr2
          have hrd := rdel_any rp m rcap M x.1 W2 hr2 (by omega)
          clear hd ht2 hu2 hb2 hr2 c0 c1 c2 c3 c4 HP1
          obtain ⟨c0, c1, c2, c3, c4⟩ := HCX.out _ HB2.out
          go_wp2_with fail
          refine hrd.mono ?_
          rintro e W3 ⟨p3, cap3, rfl, hr3, hb3, ha3⟩
          have HB3 := Lib.hid (HB2.out.trans (hb3.mono HB2.out.size))
          have HP3 : Hid (Pair W.heap.size W3 W.heap.size mb (delM M x.1) p3 cap3) := Lib.hid ⟨HT2.out.later hb3, hr3, HO.out, fun _ a ha => HT2.out.none_lt _ (ha3 a ha)⟩
          have hlen := len_del_le M x.1
          rw [HMM.out] at hlen
          clear hrd hr3 hb3 ha3 c0 c1 c2 c3 c4
          go_wp2_with fail
          go_roundw
          case rel => exact ⟨j + 1, mb, delM M x.1, p3, cap3, by omega, by omega, by go_num, by simp, rfl, by omega, HP3, HB3⟩
          case measure => simp [intOf]; omega
        | false =>
          rw [hgone] at c4
          have hbd : Below W1.heap.size W1 W1.drew := (Below.refl _ _).drew
          have hp := put_any x.1 HXK.out x.2.1 HXV.out W1.drew W.heap.size mb M (HP1.out.tab.later hbd) (by rw [HMM.out]; omega)
          clear hbd
          go_wp2_with fail
          go_still_tail 11, (by kernel_rfl)
          repeat still_step
          change wpList _ _ _ _ _ W1.drew
          go_wp2_with fail
          refine hp.mono ?_
          rintro e W2 ⟨rfl, mb2, ht2, hf2, hu2⟩
          have hb2 : Below W.heap.size W1.drew W2 := hu2.below HB1.out.size HP1.out.own
          have HB2 := Lib.hid (HB1.out.drew.trans hb2)
          have hr2 : RL W2 rp M.length rcap M := (show RL W1.drew rp M.length rcap M from HP1.out.row.later (Below.refl _ _).drew).turn hu2.size fun h0 a ha hl => hu2.block a.block hl (HP1.out.apart h0 a ha)
          have HT2 := Lib.hid ht2
          have HO : Hid (∀ k, foot W.heap.size mb2 k → W.heap.size ≤ k) := Lib.hid fun k hk => by
            rcases hk with rfl | hk
            · exact Nat.le_refl _
            · rcases hf2 with rfl | ⟨b3, hb3, hle⟩
              · exact HP1.out.own k (.inr hk)
              · rw [hb3] at hk
                cases hk
                exact Nat.le_trans HB1.out.size hle
          rw [HMM.out] at hr2
          have hbd2 : Below W2.heap.size W2 W2.drew := (Below.refl _ _).drew
          have hrp := rput_any rp m rcap M x.1 x.2.1 W2.drew (hr2.later hbd2) (by omega)
          clear hp ht2 hf2 hu2 hb2 hr2 hbd2 c0 c1 c2 c3 c4 HP1
          obtain ⟨c0, c1, c2, c3, c4⟩ := HCX.out _ HB2.out
          go_wp2_with fail
          go_still_tail 11, (by kernel_rfl)
          repeat still_step
          change wpList _ _ _ _ _ W2.drew
          go_wp2_with fail
          refine hrp.mono ?_
          rintro e W3 ⟨p3, cap3, rfl, hr3, hb3, ha3⟩
          have hb3' : Below W2.heap.size W2 W3 := (Below.refl W2.heap.size W2).drew.trans hb3
          have HB3 := Lib.hid (HB2.out.trans (hb3'.mono HB2.out.size))
          have HP3 : Hid (Pair W.heap.size W3 W.heap.size mb2 (putM M x.1 x.2.1) p3 cap3) := Lib.hid ⟨HT2.out.later hb3', hr3, HO.out, fun _ a ha => HT2.out.none_lt _ (ha3 a ha)⟩
          have hlen := len_put M x.1 x.2.1
          rw [HMM.out] at hlen
          clear hrp hr3 hb3 hb3' ha3 c0 c1 c2 c3 c4
          go_wp2_with fail
          go_roundw
          case rel => exact ⟨j + 1, mb2, putM M x.1 x.2.1, p3, cap3, by omega, by omega, by go_num, rfl, rfl, by omega, HP3, HB3⟩
          case measure => simp [intOf]; omega
      · obtain rfl : j = 60 := by omega
        go_wp2_with fail
        go_ret3
        exact ⟨mb, M, rp, rcap, rfl, HP.out, hM, HB.out⟩
    · obtain rfl : n = j := by omega
      go_wp2_with fail
      go_ret3
      exact ⟨mb, M, rp, rcap, rfl, HP.out, by omega, HB.out⟩
end Go.Proofs.Ytnjihplhahkljaa
