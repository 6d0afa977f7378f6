/- What undoes additions: the document's way. -/
import Derived.Test.YtmjhfohpllndhaaOpRow
import Derived.Test.YtmjhfohpllndhaaCalcPairs
namespace Go.Proofs.Ytmjhfohpllndhaa
open Go.RowKit Go.ChangeShapes Go.WideShapes
set_option linter.unusedVariables false

/-- A call that hands back additions of its own, and a bool. -/
def GivesOB (W : World) (V : List O) (ok : Bool) (e : Ending) (w' : World) : Prop := ∃ p c, e = .returned (.tuple #[.slice p V.length c, .bool ok]) ∧ OL w' p V.length c V ∧ Below W.heap.size W w' ∧ ∀ a, p = some a → W.heap.size ≤ a.block
theorem givesOB_none {W w' : World} (hb : Below W.heap.size W w') : GivesOB W [] false (.returned (.tuple #[.slice none 0 0, .bool false])) w' := ⟨none, 0, rfl, SlG.empty _, hb, fun a ha => by cases ha⟩
theorem FillG.slice {W wr : World} {v : Value} {L : List O} {N : Nat} (h : FillO W wr v L N) : ∃ p c, v = .slice p L.length c ∧ OL wr p L.length c L ∧ ∀ a, p = some a → W.heap.size ≤ a.block := SlG.of_own oc_len (by decide) h.own
theorem FillG.givesB {W wr : World} {v : Value} {L : List O} {N : Nat} (h : FillO W wr v L N) : GivesOB W L true (.returned (.tuple #[v, .bool true])) wr := by
  obtain ⟨p, c, rfl, hs, hp⟩ := h.slice
  exact ⟨p, c, rfl, hs, h.below, hp⟩
theorem negV_true {L : List O} (h : negB L = true) : negV L = negF L := if_pos h
theorem negV_false {L : List O} (h : negB L = false) : negV L = [] := by unfold negV; rw [h]; rfl

set_option maxHeartbeats 1000000 in
theorem refneg_o (p : Option Addr) (n c : Nat) (L : List O) (W : World) (hL : OL W p n c L) (hok : ∀ o ∈ L, Ook o) (hn : n ≤ 100000) :
    Calls Try.prog 10 #[.slice p n c] W (GivesOB W (negV L) (negB L)) := by
  have HL := Lib.hid hL
  have HLN := Lib.hid hL.len
  have HOK := Lib.hid fun j (hj : j < n) => (ok_at hok (show j < L.length by rw [hL.len]; exact hj)).2
  have HST := Lib.hid fun j (hj : j < n) => gathN_step L j (by rw [hL.len]; exact hj)
  have HLEN := Lib.hid fun j => (gathN_len L j).trans (by rw [hL.len])
  have hcap := hL.cap
  clear hL hok
  go_enter Try.func10, Try.ntmps10
  go_wp2_with fail
  go_loopw [4, 5] (fun v i wr => ∃ t : Nat, t ≤ n ∧ i = .int .i64 ((t : Int) - 1) ∧ Hid (FillO W wr v (gathN L t) (n - t)) ∧ Hid (∀ i, t ≤ i → i < n → okB (-(L.getD i o0).2) = true)) (fun _ i _ => (intOf i + 1).toNat)
  case atStart => exact ⟨n, Nat.le_refl _, rfl, Lib.hid (by rw [gathN_start L n HLN.out, Nat.sub_self]; exact FillG.nil W), Lib.hid fun i h1 h2 => by omega⟩
  case round =>
    obtain ⟨t, ht, rfl, HF, HY⟩ := hrel
    by_cases h0 : t = 0
    · subst h0
      have HB : Hid (negB L = true) := Lib.hid (negB_true L fun j hj => HY.out j (Nat.zero_le _) (by rw [← HLN.out]; exact hj))
      have hd : decide (0 ≤ ((0 : Nat) : Int) - 1) = false := by decide
      go_wp2_with fail
      go_ret2
      rw [HB.out, negV_true HB.out, ← gathN_end L]
      exact HF.out.givesB
    · obtain ⟨j, rfl⟩ : ∃ j, t = j + 1 := ⟨t - 1, by omega⟩
      have hlt : j < n := by omega
      have hlt' : (j : Int) < n := by omega
      obtain ⟨b, off, rfl, _, c0, c1, c2, c3⟩ := op_cells (HL.out.later HF.out.below) hlt
      have hx := HOK.out j hlt
      have hst := HST.out j hlt
      generalize hxx : L.getD j o0 = x at *
      have HX := Lib.hid hxx
      have HS := Lib.hid hst
      have hi0 : -9223372036854775808 ≤ x.2 := hx.1
      have hi1 : x.2 ≤ 9223372036854775807 := hx.2
      have hcall := fun w => rneg_any x.2 w hi0 hi1
      clear hxx hst hx
      by_cases hin : In64 (-x.2)
      · rw [val_in _ hin, okB_in _ hin] at hcall
        have HIN := Lib.hid hin
        clear hin
        have hsz := HF.out.below.size
        have hmost := HF.out.most
        go_wp2_with fail
        refine (hcall _).mono ?_
        rintro e w' ⟨rfl, rfl⟩
        go_wp2_with (at_builtin; refine wpList_append_o rfl _ _ rfl W.heap.size _ (gathN L (j + 1)).length (gathN L (j + 1)) rfl (HF.out.own.alloc _) (by omega) (x.1, -x.2) wr.heap.size rfl (op_news wr (x.1, -x.2)) (by simp; omega) ?_; intro v2 w2 h1 h2)
        have HF2 := Lib.hid (HF.out.step _ h1 h2)
        clear h1 h2 hsz hmost hcall
        go_wp2_with fail
        go_roundw
        case rel =>
          refine ⟨j, by omega, by go_num, Lib.hid (by rw [HS.out]; exact HF2.out.mono (by omega)), Lib.hid fun i h1 h2 => ?_⟩
          by_cases e : i = j
          · subst e; rw [HX.out]; exact okB_in _ HIN.out
          · exact HY.out i (by omega) h2
        case measure => simp [intOf]
      · rw [val_out _ hin, okB_out _ hin] at hcall
        have HB : Hid (negB L = false) := Lib.hid (negB_false L j (by rw [HLN.out]; exact hlt) (by rw [HX.out]; exact okB_out _ hin))
        clear hin
        go_wp2_with fail
        refine (hcall _).mono ?_
        rintro e w' ⟨rfl, rfl⟩
        clear hcall
        go_wp2_with fail
        go_ret2
        rw [HB.out, negV_false HB.out]
        exact givesOB_none HF.out.below
end Go.Proofs.Ytmjhfohpllndhaa
