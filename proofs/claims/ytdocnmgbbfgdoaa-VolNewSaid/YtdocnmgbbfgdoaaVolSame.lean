/- A volume held against the document's: true, where both have the same. -/
import Derived.Test.YtdocnmgbbfgdoaaVolFew
namespace Go.Proofs.Ytdocnmgbbfgdoaa
open Go.RowKit Go.ChangeShapes Go.WideShapes
set_option linter.unusedVariables false
set_option linter.unusedSimpArgs false

set_option maxHeartbeats 4000000 in
set_option maxRecDepth 100000 in
theorem same_any (B G s n : Nat) (V : List (List Int)) (Q : Nat → Prop) (p : Option Addr) (c : Nat) (w : World) (h : Vo w B G s V) (hV : RV w Q p c s V) (hn : V.length = n) :
    Calls Try.prog 12 #[.pointer (some ⟨B, 0, none⟩), .agg #[.slice p n c, .int .i64 (s : Nat)]] w fun e w' => e = .returned (.bool true) ∧ Below w.heap.size w w' := by
  have hb0 : Below w.heap.size w (w.alloc (.cells #[.slice p n c, .int .i64 (s : Nat)] 29)) := (Below.refl _ _).alloc (Nat.le_refl _) _
  have H0 := Lib.hid (h.later hb0)
  have HV0 := Lib.hid (hV.later hb0)
  have HX0 := Lib.hid (alloc_block w (.cells #[.slice p n c, .int .i64 (s : Nat)] 29))
  have HB0 := Lib.hid hb0
  have HNN := Lib.hid hn
  have hn4 : n ≤ 1024 := by rw [← hn]; exact h.n
  clear hb0 h hV hn
  go_enter Try.func12, Try.ntmps12
  go_wp2_with fail
  generalize w.alloc (.cells #[.slice p n c, .int .i64 (s : Nat)] 29) = W0 at *
  have hbl : ∀ r : After W0, Calls Try.prog 13 #[.pointer (some ⟨B, 0, none⟩)] r.w fun e w' => e = .returned (.int .i64 (n : Nat)) ∧ w' = r.w := fun r => by rw [← HNN.out]; exact blocks_any B G s V r.w (H0.out.later r.h)
  have hsz : ∀ r : After W0, Calls Try.prog 14 #[.pointer (some ⟨B, 0, none⟩)] r.w fun e w' => e = .returned (.int .i64 (s : Nat)) ∧ w' = r.w := fun r => size_any B G s V r.w (H0.out.later r.h)
  have x0 := fun r : After W0 => cell_after r (block_cell (j := 0) HX0.out (v := .slice p n c) rfl)
  have x1 := fun r : After W0 => cell_after r (block_cell (j := 1) HX0.out (v := .int .i64 (s : Nat)) rfl)
  have q1 : ((n : Int) != (n : Int)) = false := by simp
  have q2 : ((s : Int) != (s : Int)) = false := by simp
  refine wp_region_after (by kernel_rfl) (by kernel_rfl) ?_
  repeat (go_big_quiet_step (first | (go_at_call 13; exact calls_after_same _ (hbl _)) | (go_at_call 14; exact calls_after_same _ (hsz _))))
  refine wpQuiet_nil ?_
  intro w4 hw'
  obtain ⟨⟨wq, h6⟩, hw''⟩ := hw'
  subst hw''
  have H4 := Lib.hid (H0.out.later h6)
  have HV4 := Lib.hid (HV0.out.later h6)
  have HX4 := Lib.hid (block_later HX0.out h6)
  have HB4 := Lib.hid (HB0.out.trans (h6.mono HB0.out.size))
  clear hbl hsz x0 x1 q1 q2 h6 H0 HV0 HX0 HB0
  go_wp2_with fail
  generalize hX : w.heap.size = X at *
  have HXX := Lib.hid hX
  clear hX
  go_loopw [5] (fun i wr => ∃ j : Nat, j ≤ n ∧ i = .int .i64 (j : Nat) ∧ Hid (Below w4.heap.size w4 wr)) (fun i _ => n - (intOf i).toNat)
  case atStart => exact ⟨0, Nat.zero_le _, rfl, Lib.hid (Below.refl _ _)⟩
  case round =>
    obtain ⟨j, hj, rfl, HBr⟩ := hrel
    have x0 := block_cell (j := 0) (block_later HX4.out HBr.out) (v := .slice p n c) rfl
    have x1 := block_cell (j := 1) (block_later HX4.out HBr.out) (v := .int .i64 (s : Nat)) rfl
    by_cases hlt : j < n
    · have hlt' : (j : Int) < n := by omega
      have hjV : j < V.length := by rw [HNN.out]; exact hlt
      have hvr := HV4.out.later HBr.out
      obtain ⟨vb, vo, q, cq, rfl, hc1, hbq, _⟩ := hvr.one hjV
      have HC : Hid (∀ k, Calls Try.prog 18 #[.pointer (some ⟨B, 0, none⟩), .int .i64 (j : Nat)] (wr.drewN k) fun e w' => ∃ p c, e = .returned (.slice p s c) ∧ BL w' p s c (V.getD j []) ∧ Below wr.heap.size wr w') := Lib.hid fun k => (block_any B G s V j _ (((H4.out.later HBr.out)).keep ((Chg.refl (fun _ => False) _).drewN k) (fun h => h) (fun h => h)) hjV).mono fun e w' ⟨p, c, h1, h2, h3⟩ => ⟨p, c, h1, h2, below_undrew h3⟩
      have HBQ := Lib.hid hbq
      have hcq : ∀ k, (convert 33 9 (.slice q s cq)).run Try.prog (wr.drewN k) = .ok (.string (strOfNums (V.getD j []))) (wr.drewN k) := fun k => conv_bl (BL.keep HBQ.out ((Chg.refl (fun _ => False) _).drewN k) fun _ _ _ h => h)
      have hcd : (convert 33 9 (.slice q s cq)).run Try.prog wr.drew = .ok (.string (strOfNums (V.getD j []))) wr.drew := hcq 1
      have HC1 := Lib.hid hc1
      have HXR := Lib.hid (block_later HX4.out HBr.out)
      clear hvr hbq
      generalize hst : strOfNums (V.getD j []) = st at *
      have HST := Lib.hid hst
      clear hst
      go_wp2_with fail
      go_region_held (fun w' => w'.cell? ⟨X, 0, none⟩ = some (.slice (some ⟨vb, vo, none⟩) n c) ∧ w'.cell? ⟨vb, vo + j, none⟩ = some (.slice q s cq) ∧ (convert 33 9 (.slice q s cq)).run Try.prog w' = .ok (.string st) w') (first | exact ⟨x0, hc1, hcd⟩ | exact ⟨x0, hc1, hcq 0⟩ | exact ⟨f0, f1, g2⟩) ((go_at_call 18; refine (HC.out _).mono ?_; rintro e w5 ⟨P5, C5, rfl, hb5, hbw5⟩; have f0 := block_cell (j := 0) (block_later (w := wr) HXR.out hbw5) (v := .slice (some ⟨vb, vo, none⟩) n c) rfl; have f1 : w5.cell? ⟨vb, vo + j, none⟩ = some (.slice q s cq) := (hbw5.cell (World.block_lt_of_cell? _ _ HC1.out)).trans HC1.out; have g1 := conv_bl hb5; rw [HST.out] at g1; have g2 := conv_bl (SlG.later (w := wr) HBQ.out hbw5); rw [HST.out] at g2; clear hb5))
      all_goals
        have HB5 := Lib.hid (HBr.out.trans (hbw5.mono HBr.out.size))
        clear hbw5 f0 f1 g1 g2
        go_wp2_with fail
        go_roundw
        case rel => exact ⟨j + 1, by omega, by go_num, HB5⟩
        case measure => simp [intOf]; omega
    · obtain rfl : n = j := by omega
      have H5 := Lib.hid (H4.out.later HBr.out)
      have hm1 := block_none B G s V (-1) wr H5.out (by omega)
      have hm2 := block_none B G s V (n : Nat) wr H5.out (by rw [HNN.out]; omega)
      go_wp2_with fail
      refine hm1.mono ?_
      rintro e w5 ⟨rfl, rfl⟩
      go_wp2_with fail
      refine hm2.mono ?_
      rintro e w6 ⟨rfl, rfl⟩
      go_wp2_with fail
      go_ret
      have hfin := HB4.out.trans (HBr.out.mono (by have := HB4.out.size; have := HXX.out; omega))
      rw [← HXX.out] at hfin
      exact ⟨rfl, hfin⟩
/-- A volume of so many blocks of so many bytes. -/
def PB (W : World) (B n s : Nat) : Prop := ∃ G V, Vo W B G s V ∧ V.length = n
theorem blocks_pb {W : World} {B n s : Nat} (h : PB W B n s) (r : After W) : Calls Try.prog 13 #[.pointer (some ⟨B, 0, none⟩)] r.w fun e w' => e = .returned (.int .i64 (n : Nat)) ∧ w' = r.w := by
  obtain ⟨G, V, hv, rfl⟩ := h
  exact blocks_any B G s V r.w (hv.later r.h)
theorem size_pb {W : World} {B n s : Nat} (h : PB W B n s) (r : After W) : Calls Try.prog 14 #[.pointer (some ⟨B, 0, none⟩)] r.w fun e w' => e = .returned (.int .i64 (s : Nat)) ∧ w' = r.w := by
  obtain ⟨G, V, hv, rfl⟩ := h
  exact size_any B G s V r.w (hv.later r.h)
/-- A volume, and the document's beside it, at block X9; all since w. -/
structure Pl (w W : World) (X1 X9 n0 n s : Nat) (p : Option Addr) (c : Nat) (V : List (List Int)) : Prop where
  vo : Vo W X1 (X1 + 1) s V
  rv : RV W (fun k => n0 ≤ k) p c s V
  blk : W.heap[X9]? = some (.cells #[.slice p n c, .int .i64 (s : Nat)] 29 (0, 0))
  len : V.length = n
  below : Below w.heap.size w W
  lo : w.heap.size ≤ X1 ∧ X1 + 1 < n0 ∧ n0 ≤ X9
theorem Pl.later {w W W' : World} {X1 X9 n0 n s : Nat} {p : Option Addr} {c : Nat} {V : List (List Int)} (h : Pl w W X1 X9 n0 n s p c V) (hb : Below W.heap.size W W') : Pl w W' X1 X9 n0 n s p c V :=
  ⟨h.vo.later hb, h.rv.later hb, block_later h.blk hb, h.len, h.below.trans (hb.mono h.below.size), h.lo⟩
theorem Pl.drewN {w W : World} {X1 X9 n0 n s : Nat} {p : Option Addr} {c : Nat} {V : List (List Int)} (h : Pl w W X1 X9 n0 n s p c V) (q : Nat) : Pl w (W.drewN q) X1 X9 n0 n s p c V := h.later (below_drewN (Below.refl _ _) q)
/-- Behind an act: ahead of the store, and behind it. -/
theorem Pl.act {w W w5 : World} {X1 X9 n0 n s q : Nat} {p p' : Option Addr} {c c' : Nat} {V V' : List (List Int)} (h : Pl w W X1 X9 n0 n s p c V) (hr : RV w5 (fun k => n0 ≤ k) p' c' s V') (hv : Vo w5 X1 (X1 + 1) s V') (hc : Chg (fun k => k = X1 + 1) (W.drewN q) w5) (hl : V'.length = n) :
    (w5.cell? ⟨X9, 0, none⟩ = some (.slice p n c) ∧ w5.cell? ⟨X9, 1, none⟩ = some (.int .i64 (s : Nat)) ∧ w5.frozen? ⟨X9, 0, none⟩ = false ∧ w5.frozen? ⟨X9, 1, none⟩ = false) ∧ Pl w ((w5.setCell ⟨X9, 0, none⟩ (.slice p' n c')).setCell ⟨X9, 1, none⟩ (.int .i64 (s : Nat))) X1 X9 n0 n s p' c' V' := by
  have hlo := h.lo
  have h9 : w5.heap[X9]? = some (.cells #[.slice p n c, .int .i64 (s : Nat)] 29 (0, 0)) := (hc.undrew.block X9 (block_lt h.blk) (by omega)).trans h.blk
  have hC : Chg (fun k => k = X9) w5 ((w5.setCell ⟨X9, 0, none⟩ (.slice p' n c')).setCell ⟨X9, 1, none⟩ (.int .i64 (s : Nat))) := ((Chg.refl (fun k => k = X9) w5).setCell ⟨X9, 0, none⟩ _ fun _ => rfl).setCell ⟨X9, 1, none⟩ _ fun _ => rfl
  refine ⟨⟨block_cell h9 rfl, block_cell h9 rfl, block_free 0 h9, block_free 1 h9⟩, hv.keep hC (by omega) (by omega), hr.keep_typed hC (fun k _ hk => not_refs h9 k hk) (fun k _ hk => not_ref h9 k hk), block_put 1 _ (block_put 0 _ h9), hl, ?_, hlo⟩
  have h5 := hc.undrew.below h.below h.below.size fun k hk => by omega
  exact hC.below h5 h5.size fun k hk => by omega
end Go.Proofs.Ytdocnmgbbfgdoaa
