/- What several steps of the same items come to: the law's own closure. -/
import Derived.Test.YtnmdplefedffnaaDoorStepOps
import Derived.Test.YtnmdplefedffnaaDoorOpNet
namespace Go.Proofs.YtnmdplefedffnaaDoor
open Go.RowKit Go.ChangeShapes Go.WideShapes
set_option linter.unusedVariables false
set_option maxRecDepth 10000

/-- Tags in memory. -/
def tc (z : Int) : List Value := [.int .u8 z]
abbrev TL (w : World) (p : Option Addr) (n c : Nat) (T : List Int) : Prop := SlG tc 1 0 w p n c T
theorem tag_cell {w : World} {p : Option Addr} {n c : Nat} {T : List Int} (h : TL w p n c T) {j : Nat} (hj : j < n) : ∃ b off, p = some ⟨b, off, none⟩ ∧ b < w.heap.size ∧ w.cell? ⟨b, off + j, none⟩ = some (.int .u8 (T.getD j 0)) := by
  obtain ⟨b, off, rfl, hb, hc⟩ := h.cell (by omega)
  have := hc j hj 0 _ rfl
  rw [Nat.mul_one, Nat.add_zero] at this
  exact ⟨b, off, rfl, hb, this⟩
theorem tags_zero (w : Int) (L : List Ln) (T : List Int) : tagsS (T.take 0) w L = [] := by simp [tagsS]
set_option maxHeartbeats 2000000 in
theorem all_tags (T : List Int) (tp : Option Addr) (tn tcp : Nat) (r : Int) (p : Option Addr) (n c : Nat) (L : List Ln) (W : World) (Bw Bi : Nat) (hT : TL W tp tn tcp T) (hcw : W.cell? ⟨Bw, 0, none⟩ = some (.int .u8 r)) (hci : W.cell? ⟨Bi, 0, none⟩ = some (.slice p n c))
    (hL : LL W p n c L) (hok : ∀ x ∈ L, Lnok x) (hr : 0 ≤ r ∧ r ≤ 255) (hn : n ≤ 20) (htn : tn ≤ 4) (hnet : netV (tagsS T r L) = [] ∧ netB (tagsS T r L) = true) :
    Calls Tryd.prog 23 #[.slice tp tn tcp, .pointer (some ⟨Bw, 0, none⟩), .pointer (some ⟨Bi, 0, none⟩)] W fun e w' => e = .returned (.bool true) ∧ Below W.heap.size W w' := by
  have HT := Lib.hid hT
  have HST := Lib.hid fun j (hj : j < tn) => tags_take T r L j (by rw [hT.len]; exact hj)
  have HEND : Hid (tagsS (T.take tn) r L = tagsS T r L) := Lib.hid (by rw [← hT.len, List.take_length])
  have HCW := Lib.hid hcw
  have HCI := Lib.hid hci
  have HL := Lib.hid hL
  have HLN := Lib.hid hL.len
  have HOK := Lib.hid hok
  have HTOK := Lib.hid (tags_ok T r L hr hok)
  have HNET := Lib.hid hnet
  have HN := Lib.hid hn
  have HLEN := Lib.hid fun t => opsS_len t r L
  have htc := hT.cap
  clear hT hcw hci hL hok hnet
  go_enter Tryd.func23, Tryd.ntmps23
  go_wp2_with fail
  go_loopw [5, 12] (fun v i wr => ∃ j : Nat, j ≤ tn ∧ i = .int .i64 j ∧ Hid (FillO W wr v (tagsS (T.take j) r L) (40 * j))) (fun _ i _ => tn - (Go.RowKit.intOf i).toNat)
  case atStart => exact ⟨0, Nat.zero_le _, rfl, Lib.hid (by rw [tags_zero]; exact FillG.nil W)⟩
  case round =>
    obtain ⟨j, hj, rfl, HF⟩ := hrel
    by_cases hlt : j < tn
    · have hlt' : (j : Int) < tn := by omega
      obtain ⟨b, off, rfl, _, c0⟩ := tag_cell (HT.out.later HF.out.below) hlt
      have e0 := (HF.out.below.cell (World.block_lt_of_cell? _ _ HCW.out)).trans HCW.out
      have e1 := (HF.out.below.cell (World.block_lt_of_cell? _ _ HCI.out)).trans HCI.out
      have hst := HST.out j hlt
      generalize T.getD j 0 = t at *
      have hop := ops_any t r p n c L wr (HL.out.later HF.out.below) HOK.out (by omega)
      have hlen := HLEN.out t
      rw [HLN.out] at hlen
      generalize opsS t r L = M at *
      have HS := Lib.hid hst
      have HM : Hid (M.length ≤ 40) := Lib.hid (by omega)
      clear hst hlen
      go_wp2_with fail
      refine hop.mono ?_
      rintro e w2 ⟨p2, c2, rfl, hs2, hb2, _⟩
      have HF2 := Lib.hid (HF.out.later hb2)
      have HM2 := HM.out
      clear hop hb2 e0 e1 c0
      go_wp2_with (at_builtin; refine wpList_append_fill rfl _ _ rfl _ _ _ rfl HF2.out p2 _ c2 M rfl hs2 (by omega) ?_; intro p3 n3 c3 w3 h3)
      have HF3 := Lib.hid h3
      clear hs2 h3 HF2
      go_wp2_with fail
      go_roundw
      case rel => exact ⟨j + 1, by omega, by go_num, Lib.hid (by rw [HS.out]; exact HF3.out.mono (by omega))⟩
      case measure => simp [Go.RowKit.intOf]; omega
    · obtain rfl : j = tn := by omega
      have hF := HF.out
      rw [HEND.out] at hF
      obtain ⟨pv, cv, hv, hs, _⟩ := hF.slice
      have hm := hF.most
      have hnt := net_o pv _ cv (tagsS T r L) wr hs HTOK.out (by omega)
      rw [HNET.out.1, HNET.out.2] at hnt
      have HB := Lib.hid hF.below
      clear hF hs hm HF
      generalize (tagsS T r L).length = k at *
      subst hv
      go_wp2_with fail
      refine hnt.mono ?_
      rintro e w4 ⟨p4, c4, rfl, _, hb4, _⟩
      have HB4 := Lib.hid (HB.out.trans (hb4.mono HB.out.size))
      clear hnt hb4
      simp only [List.length_nil]
      go_wp2_with fail
      go_ret
      exact ⟨rfl, HB4.out⟩
end Go.Proofs.YtnmdplefedffnaaDoor
