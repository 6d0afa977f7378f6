/- What a step does, and what undoes it: the program's way and the document's. -/
import Derived.Test.YtnmdplefedffnaaDoorStepOne
import Derived.Test.YtnmdplefedffnaaDoorOpNeg
import Derived.StillTailTactics
namespace Go.Proofs.YtnmdplefedffnaaDoor
open Go.RowKit Go.ChangeShapes Go.WideShapes
set_option linter.unusedVariables false
set_option maxRecDepth 10000

theorem item_yes (t w : Int) (x : Ln) (h : 1 ≤ x.2) : itemS t w x = oneS t w x := if_pos h
theorem item_no (t w : Int) (x : Ln) (h : ¬ 1 ≤ x.2) : itemS t w x = [] := if_neg h
theorem cells_step {w : World} {X : Nat} {t r : Int} {s : Value} (h : w.heap[X]? = some (.cells #[.int .u8 t, .int .u8 r, s] 24 (0, 0))) :
    w.cell? ⟨X, 0, none⟩ = some (.int .u8 t) ∧ w.cell? ⟨X, 1, none⟩ = some (.int .u8 r) ∧ w.cell? ⟨X, 2, none⟩ = some s := ⟨block_cell h rfl, block_cell h rfl, block_cell h rfl⟩
set_option maxHeartbeats 1000000 in
theorem ops_any (t r : Int) (p : Option Addr) (n c : Nat) (L : List Ln) (W : World) (hL : LL W p n c L) (hok : ∀ x ∈ L, Lnok x) (hn : n ≤ 1000) :
    Calls Tryd.prog 13 #[.agg #[.int .u8 t, .int .u8 r, .slice p n c]] W (GivesO W (opsS t r L)) := by
  have HST := Lib.hid fun j (hj : j < n) => opsS_take t r L j (by rw [hL.len]; exact hj)
  have HIN := Lib.hid fun j (hj : j < n) => (lnok_at hok (show j < L.length by rw [hL.len]; exact hj)).2
  have HEND : Hid (opsS t r (L.take n) = opsS t r L) := Lib.hid (by rw [← hL.len, List.take_length])
  have hb1 : Below W.heap.size W (W.alloc (.cells #[.int .u8 t, .int .u8 r, .slice p n c] 24)) := (Below.refl _ _).alloc (Nat.le_refl _) _
  have HB1 := Lib.hid hb1
  have HL := Lib.hid (hL.later hb1)
  have HX := Lib.hid (alloc_block W (.cells #[.int .u8 t, .int .u8 r, .slice p n c] 24))
  have hcap := hL.cap
  clear hL hok hb1
  go_enter Tryd.func13, Tryd.ntmps13
  go_wp2_with fail
  have hz := (cells_step HX.out).2.2
  generalize W.alloc (.cells #[.int .u8 t, .int .u8 r, .slice p n c] 24) = W1 at *
  go_wp2_with fail
  clear hz
  go_loopw [3, 9] (fun v i wr => ∃ j : Nat, j ≤ n ∧ i = .int .i64 j ∧ Hid (FillO W1 wr v (opsS t r (L.take j)) (2 * j))) (fun _ i _ => n - (Go.RowKit.intOf i).toNat)
  case atStart => exact ⟨0, Nat.zero_le _, rfl, Lib.hid (by rw [opsS_nil]; exact FillG.nil W1)⟩
  case round =>
    obtain ⟨j, hj, rfl, HF⟩ := hrel
    by_cases hlt : j < n
    · have hlt' : (j : Int) < n := by omega
      obtain ⟨b, off, rfl, _, c0, c1⟩ := line_cells (HL.out.later HF.out.below) hlt
      have hx := HIN.out j hlt
      have hst := HST.out j hlt
      have hlen := one_len t r (L.getD j l0)
      have hyes := item_yes t r (L.getD j l0)
      have hno := item_no t r (L.getD j l0)
      generalize L.getD j l0 = x at *
      obtain ⟨s, q⟩ := x
      dsimp only at c0 c1 hx hyes hno
      have hba : Below wr.heap.size wr (wr.alloc (.cells #[.int .u8 s, .int .i64 q] 44)) := (Below.refl _ _).alloc (Nat.le_refl _) _
      have HFA := Lib.hid (HF.out.later hba)
      have hbx := block_later (block_later HX.out HF.out.below) hba
      have hbl := alloc_block wr (.cells #[.int .u8 s, .int .i64 q] 44)
      have e0 := (cells_step hbx).1
      have e1 := (cells_step hbx).2.1
      have e2 := (cells_step hbx).2.2
      clear hba hbx hbl
      by_cases hq : 1 ≤ q
      · have hd : decide (1 ≤ q) = true := decide_eq_true hq
        rw [hyes hq] at hst
        have hadd := fun W => additions_any t r (some ⟨b, off, none⟩) n c (s, q) W hx hq
        generalize oneS t r (s, q) = M at *
        have HS := Lib.hid hst
        have HM := Lib.hid hlen
        clear hx hst hyes hno hlen hq
        go_wp2_with fail
        refine (hadd _).mono ?_
        rintro e w2 ⟨p2, c2, rfl, hs2, hb2, _⟩
        have HF2 := Lib.hid (HFA.out.later hb2)
        have HM2 := HM.out
        clear hadd hb2 HFA e0 e1 e2
        go_wp2_with (at_builtin; refine wpList_append_fill rfl _ _ rfl _ _ _ rfl HF2.out p2 _ c2 M rfl hs2 (by omega) ?_; intro p3 n3 c3 w3 h3)
        have HF3 := Lib.hid h3
        clear hs2 h3 HF2
        go_wp2_with fail
        go_roundw
        case rel => exact ⟨j + 1, by omega, by go_num, Lib.hid (by rw [HS.out]; exact HF3.out.mono (by omega))⟩
        case measure => simp [Go.RowKit.intOf]; omega
      · have hd : decide (1 ≤ q) = false := decide_eq_false hq
        rw [hno hq, List.append_nil] at hst
        have HS := Lib.hid hst
        clear hx hst hyes hno hlen hq
        go_wp2_with fail
        go_roundw
        case rel => exact ⟨j + 1, by omega, by go_num, Lib.hid (by rw [HS.out]; exact HFA.out.mono (by omega))⟩
        case measure => simp [Go.RowKit.intOf]; omega
    · obtain rfl : j = n := by omega
      go_wp2_with fail
      go_ret
      have := HF.out.gives (d := o0) oc_len (by decide)
      rw [HEND.out] at this
      exact this.since HB1.out
end Go.Proofs.YtnmdplefedffnaaDoor
