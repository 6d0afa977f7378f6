/- A volume held against the document's: true, where both have the same. -/
import Derived.Test.YtdocnmgbbfgdoaaVolFew
namespace Go.Proofs.Ytdocnmgbbfgdoaa
open Go.RowKit Go.ChangeShapes Go.WideShapes
set_option linter.unusedVariables false
set_option linter.unusedSimpArgs false

set_option maxHeartbeats 4000000 in
set_option maxRecDepth 100000 in
theorem same_any (B G s n : Nat) (V : List (List Int)) (Q : Nat → Prop) (p : Option Addr) (c : Nat) (w : World) (h : Vo w B G s V) (hV : RV w Q p c s V) (hn : V.length = n) :
    Calls Try.prog 12 #[.pointer (some ⟨B, 0, none⟩), .agg #[.slice p n c, .int .i64 (s : Nat)]] w fun e w' => e = .returned (.bool true) ∧ Below w.heap.size w w' := by
  have hb0 : Below w.heap.size w (w.alloc (.cells #[.slice p n c, .int .i64 (s : Nat)] 29)) := (Below.refl _ _).alloc (Nat.le_refl _) _
  have H0 := Lib.hid (h.later hb0)
  have HV0 := Lib.hid (hV.later hb0)
  have HX0 := Lib.hid (alloc_block w (.cells #[.slice p n c, .int .i64 (s : Nat)] 29))
  have HB0 := Lib.hid hb0
  have HNN := Lib.hid hn
  have hn4 : n ≤ 1024 := by rw [← hn]; exact h.n
  clear hb0 h hV hn
  go_enter Try.func12, Try.ntmps12
  go_wp2_with fail
  generalize w.alloc (.cells #[.slice p n c, .int .i64 (s : Nat)] 29) = W0 at *
  have hbl : ∀ r : After W0, Calls Try.prog 13 #[.pointer (some ⟨B, 0, none⟩)] r.w fun e w' => e = .returned (.int .i64 (n : Nat)) ∧ w' = r.w := fun r => by rw [← HNN.out]; exact blocks_any B G s V r.w (H0.out.later r.h)
  have hsz : ∀ r : After W0, Calls Try.prog 14 #[.pointer (some ⟨B, 0, none⟩)] r.w fun e w' => e = .returned (.int .i64 (s : Nat)) ∧ w' = r.w := fun r => size_any B G s V r.w (H0.out.later r.h)
  have x0 := fun r : After W0 => cell_after r (block_cell (j := 0) HX0.out (v := .slice p n c) rfl)
  have x1 := fun r : After W0 => cell_after r (block_cell (j := 1) HX0.out (v := .int .i64 (s : Nat)) rfl)
  have q1 : ((n : Int) != (n : Int)) = false := by simp
  have q2 : ((s : Int) != (s : Int)) = false := by simp
  refine wp_region_after (by kernel_rfl) (by kernel_rfl) ?_
  repeat (go_big_quiet_step (first | (go_at_call 13; exact calls_after_same _ (hbl _)) | (go_at_call 14; exact calls_after_same _ (hsz _))))
  refine wpQuiet_nil ?_
  intro w4 hw'
  obtain ⟨⟨wq, h6⟩, hw''⟩ := hw'
  subst hw''
  have H4 := Lib.hid (H0.out.later h6)
  have HV4 := Lib.hid (HV0.out.later h6)
  have HX4 := Lib.hid (block_later HX0.out h6)
  have HB4 := Lib.hid (HB0.out.trans (h6.mono HB0.out.size))
  clear hbl hsz x0 x1 q1 q2 h6 H0 HV0 HX0 HB0
  go_wp2_with fail
  generalize hX : w.heap.size = X at *
  have HXX := Lib.hid hX
  clear hX
  go_loopw [5] (fun i wr => ∃ j : Nat, j ≤ n ∧ i = .int .i64 (j : Nat) ∧ Hid (Below w4.heap.size w4 wr)) (fun i _ => n - (intOf i).toNat)
  case atStart => exact ⟨0, Nat.zero_le _, rfl, Lib.hid (Below.refl _ _)⟩
  case round =>
    obtain ⟨j, hj, rfl, HBr⟩ := hrel
    have x0 := block_cell (j := 0) (block_later HX4.out HBr.out) (v := .slice p n c) rfl
    have x1 := block_cell (j := 1) (block_later HX4.out HBr.out) (v := .int .i64 (s : Nat)) rfl
    by_cases hlt : j < n
    · have hlt' : (j : Int) < n := by omega
      have hjV : j < V.length := by rw [HNN.out]; exact hlt
      have hvr := HV4.out.later HBr.out
      obtain ⟨vb, vo, q, cq, rfl, hc1, hbq, _⟩ := hvr.one hjV
      have HC : Hid (∀ k, Calls Try.prog 18 #[.pointer (some ⟨B, 0, none⟩), .int .i64 (j : Nat)] (wr.drewN k) fun e w' => ∃ p c, e = .returned (.slice p s c) ∧ BL w' p s c (V.getD j []) ∧ Below wr.heap.size wr w') := Lib.hid fun k => (block_any B G s V j _ (((H4.out.later HBr.out)).keep ((Chg.refl (fun _ => False) _).drewN k) (fun h => h) (fun h => h)) hjV).mono fun e w' ⟨p, c, h1, h2, h3⟩ => ⟨p, c, h1, h2, below_undrew h3⟩
      have HBQ := Lib.hid hbq
      have hcq : ∀ k, (convert 33 9 (.slice q s cq)).run Try.prog (wr.drewN k) = .ok (.string (strOfNums (V.getD j []))) (wr.drewN k) := fun k => conv_bl (BL.keep HBQ.out ((Chg.refl (fun _ => False) _).drewN k) fun _ _ _ h => h)
      have hcd : (convert 33 9 (.slice q s cq)).run Try.prog wr.drew = .ok (.string (strOfNums (V.getD j []))) wr.drew := hcq 1
      have HC1 := Lib.hid hc1
      have HXR := Lib.hid (block_later HX4.out HBr.out)
      clear hvr hbq
      generalize hst : strOfNums (V.getD j []) = st at *
      have HST := Lib.hid hst
      clear hst
      go_wp2_with fail
      go_region_held (fun w' => w'.cell? ⟨X, 0, none⟩ = some (.slice (some ⟨vb, vo, none⟩) n c) ∧ w'.cell? ⟨vb, vo + j, none⟩ = some (.slice q s cq) ∧ (convert 33 9 (.slice q s cq)).run Try.prog w' = .ok (.string st) w') (first | exact ⟨x0, hc1, hcd⟩ | exact ⟨x0, hc1, hcq 0⟩ | exact ⟨f0, f1, g2⟩) ((go_at_call 18; refine (HC.out _).mono ?_; rintro e w5 ⟨P5, C5, rfl, hb5, hbw5⟩; have f0 := block_cell (j := 0) (block_later (w := wr) HXR.out hbw5) (v := .slice (some ⟨vb, vo, none⟩) n c) rfl; have f1 : w5.cell? ⟨vb, vo + j, none⟩ = some (.slice q s cq) := (hbw5.cell (World.block_lt_of_cell? _ _ HC1.out)).trans HC1.out; have g1 := conv_bl hb5; rw [HST.out] at g1; have g2 := conv_bl (SlG.later (w := wr) HBQ.out hbw5); rw [HST.out] at g2; clear hb5))
      all_goals
        have HB5 := Lib.hid (HBr.out.trans (hbw5.mono HBr.out.size))
        clear hbw5 f0 f1 g1 g2
        go_wp2_with fail
        go_roundw
        case rel => exact ⟨j + 1, by omega, by go_num, HB5⟩
        case measure => simp [intOf]; omega
    · obtain rfl : n = j := by omega
      have H5 := Lib.hid (H4.out.later HBr.out)
      have hm1 := block_none B G s V (-1) wr H5.out (by omega)
      have hm2 := block_none B G s V (n : Nat) wr H5.out (by rw [HNN.out]; omega)
      go_wp2_with fail
      refine hm1.mono ?_
      rintro e w5 ⟨rfl, rfl⟩
      go_wp2_with fail
      refine hm2.mono ?_
      rintro e w6 ⟨rfl, rfl⟩
      go_wp2_with fail
      go_ret
      have hfin := HB4.out.trans (HBr.out.mono (by have := HB4.out.size; have := HXX.out; omega))
      rw [← HXX.out] at hfin
      exact ⟨rfl, hfin⟩
/-- A volume of so many blocks of so many bytes. -/
def PB (W : World) (B n s : Nat) : Prop := ∃ G V, Vo W B G s V ∧ V.length = n
theorem blocks_pb {W : World} {B n s : Nat} (h : PB W B n s) (r : After W) : Calls Try.prog 13 #[.pointer (some ⟨B, 0, none⟩)] r.w fun e w' => e = .returned (.int .i64 (n : Nat)) ∧ w' = r.w := by
  obtain ⟨G, V, hv, rfl⟩ := h
  exact blocks_any B G s V r.w (hv.later r.h)
theorem size_pb {W : World} {B n s : Nat} (h : PB W B n s) (r : After W) : Calls Try.prog 14 #[.pointer (some ⟨B, 0, none⟩)] r.w fun e w' => e = .returned (.int .i64 (s : Nat)) ∧ w' = r.w := by
  obtain ⟨G, V, hv, rfl⟩ := h
  exact size_any B G s V r.w (hv.later r.h)
end Go.Proofs.Ytdocnmgbbfgdoaa
