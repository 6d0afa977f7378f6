/- Tear and Put. -/
import Derived.Test.YtdkpjaobfohdfaaVolMake
namespace Go.Proofs.Ytdkpjaobfohdfaa
open Go.RowKit Go.ChangeShapes Go.WideShapes
set_option linter.unusedVariables false
set_option maxRecDepth 10000
set_option linter.unusedSimpArgs false

theorem tear_nil (i x : Int) (p : Option Addr) (m c : Nat) (w : World) : Calls Try.prog 62 #[.pointer none, .int .i64 i, .slice p m c, .int .i64 x] w fun e w' => e = .returned (.int .i64 1) ∧ w' = w := by
  have hh := has_nil i w
  go_enter Try.func62, Try.ntmps62
  go_wp2_with fail
  refine hh.mono ?_
  rintro e w' ⟨rfl, rfl⟩
  go_wp2_with fail
  go_ret
  exact ⟨rfl, rfl⟩
theorem put_nil (i : Int) (p : Option Addr) (m c : Nat) (w : World) : Calls Try.prog 48 #[.pointer none, .int .i64 i, .slice p m c] w fun e w' => e = .returned (.int .i64 1) ∧ w' = w := by
  have hs := size_nil w
  have ht := tear_nil i 0 p m c w
  go_enter Try.func48, Try.ntmps48
  go_wp2_with fail
  refine hs.mono ?_
  rintro e w' ⟨rfl, rfl⟩
  go_wp2_with fail
  refine ht.mono ?_
  rintro e w' ⟨rfl, rfl⟩
  go_wp2_with fail
  go_ret
  exact ⟨rfl, rfl⟩
theorem tear_none (B G s : Nat) (V : List (List Int)) (i x : Int) (p : Option Addr) (m c : Nat) (w : World) (h : Vo w B G s V) (hi : ¬ (0 ≤ i ∧ i < V.length)) : Calls Try.prog 62 #[.pointer (some ⟨B, 0, none⟩), .int .i64 i, .slice p m c, .int .i64 x] w fun e w' => e = .returned (.int .i64 1) ∧ w' = w := by
  have hh := has_any B G s V i w h
  rw [decide_eq_false hi] at hh
  clear h hi
  go_enter Try.func62, Try.ntmps62
  go_wp2_with fail
  refine hh.mono ?_
  rintro e w' ⟨rfl, rfl⟩
  go_wp2_with fail
  go_ret
  exact ⟨rfl, rfl⟩
theorem tear_long (B G s : Nat) (V : List (List Int)) (i x : Int) (p : Option Addr) (m c : Nat) (w : World) (h : Vo w B G s V) (hi : 0 ≤ i ∧ i < V.length) (hm : s < m) : Calls Try.prog 62 #[.pointer (some ⟨B, 0, none⟩), .int .i64 i, .slice p m c, .int .i64 x] w fun e w' => e = .returned (.int .i64 7) ∧ w' = w := by
  have hh := has_any B G s V i w h
  rw [decide_eq_true hi] at hh
  obtain ⟨c0, c1, c2⟩ := h.cells
  clear h hi c0 c2
  have hm' : (s : Int) < (m : Int) := by omega
  go_enter Try.func62, Try.ntmps62
  go_wp2_with fail
  refine hh.mono ?_
  rintro e w' ⟨rfl, rfl⟩
  go_wp2_with fail
  go_ret
  exact ⟨rfl, rfl⟩
set_option maxHeartbeats 1000000 in
theorem tear_good (B G s : Nat) (V : List (List Int)) (i : Nat) (x : Int) (p : Option Addr) (m c : Nat) (L : List Int) (w : World) (h : Vo w B G s V) (hi : i < V.length) (hL : BL w p m c L) (hm : m ≤ s) (hp : 0 < m → ∀ a, p = some a → a.block ≠ G) :
    Calls Try.prog 62 #[.pointer (some ⟨B, 0, none⟩), .int .i64 (i : Nat), .slice p m c, .int .i64 x] w fun e w' => e = .returned (.int .i64 0) ∧ Vo w' B G s (V.set i (tearL (V.getD i []) L (kp x s))) ∧ Chg (fun k => k = G) w w' := by
  have H := Lib.hid h
  have hh := has_any B G s V (i : Nat) w h
  have hd : decide (0 ≤ (i : Int) ∧ (i : Int) < V.length) = true := decide_eq_true (by omega)
  rw [hd] at hh
  clear hd
  obtain ⟨c0, c1, c2⟩ := h.cells
  have C1 : ∀ p : After w, p.w.cell? ⟨B, 1, none⟩ = some (.int .i64 (s : Nat)) := fun p => cell_after p c1
  have HAT : Hid (∀ p : After w, Calls Try.prog 65 #[.pointer (some ⟨B, 0, none⟩), .int .i64 (i : Nat)] p.w fun e w' => e = .returned (.slice (some ⟨G, i * s, none⟩) s (V.length * s - i * s)) ∧ Below p.w.heap.size p.w w') := Lib.hid fun p => (at_any B G s V i p.w (h.later p.h) hi).mono fun e w' ⟨he, q, hw⟩ => ⟨he, by rw [hw]; exact below_drewN (Below.refl _ _) q⟩
  have HK := Lib.hid fun w => kept_any x (s : Nat) w (by omega)
  have HL := Lib.hid hL
  have HP := Lib.hid hp
  have HI := Lib.hid hi
  have hbig := h.big
  have hmul := mul_lt_mul' (s := s) hi
  have hs4 := h.s
  have hkl : kp x (s : Nat) ≤ s := by have := kp_le x (s : Nat) (by omega); omega
  have hm' : ¬ ((s : Int) < (m : Int)) := by omega
  clear h c0 c2 hL hp hi
  generalize hk : kp x (s : Nat) = t at *
  have HKK := Lib.hid hk
  clear hk
  generalize hcc : V.length * s - i * s = cc at *
  have hcc' : s ≤ cc := by omega
  clear hcc hmul hbig
  go_enter Try.func62, Try.ntmps62
  go_wp2_with fail
  refine hh.mono ?_
  rintro e w' ⟨rfl, rfl⟩
  go_wp2_with fail
  refine wp_region_after (by kernel_rfl) (by kernel_rfl) ?_
  repeat (go_big_quiet_step (first | (go_at_call 65; exact calls_after _ (HAT.out _)) | (go_at_call 42; exact calls_after_same _ (HK.out _))))
  refine wpQuiet_nil ?_
  intro w4 hw'
  obtain ⟨⟨wq, h6⟩, hw''⟩ := hw'
  subst hw''
  have HB4 := Lib.hid h6
  have H4 := Lib.hid (H.out.later h6)
  have HL4 := Lib.hid (HL.out.later h6)
  clear h6 HAT HK hh c1 C1 HL H
  obtain ⟨k0, hk0⟩ : ∃ k0, Nat.min m t = k0 := ⟨_, rfl⟩
  have hk1 : k0 ≤ t := by rw [← hk0]; exact Nat.min_le_right ..
  have hkm : k0 ≤ m := by rw [← hk0]; exact Nat.min_le_left ..
  have HK0 := Lib.hid hk0
  have hfit : i * s + k0 ≤ V.flatten.length := by have := mul_lt_mul' (s := s) HI.out; rw [H4.out.flat]; omega
  have hfit2 : i * s + k0 + (t - k0) ≤ V.flatten.length := by have := mul_lt_mul' (s := s) HI.out; rw [H4.out.flat]; omega
  have HF2 := Lib.hid hfit2
  have hx := tear_flat V i s L k0 t H4.out.len HI.out hkl (by rw [HL4.out.len]; exact HK0.out)
  have hlen1 : (splice V.flatten (i * s) (L.take k0)).length = V.flatten.length := length_splice _ _ _ (by rw [List.length_take, HL4.out.len]; omega)
  rw [← hlen1] at hfit2
  generalize hy : splice V.flatten (i * s) (L.take k0) = Y at *
  have HX := Lib.hid hx
  have HFY := Lib.hid hfit2
  clear hk0 hx hfit2 hlen1
  have hend : ∀ w5 w6, Hid (w5.heap[G]? = some (.cells (vB Y).toArray 5 (0, 0))) → Chg (fun k => k = G) w4 w5 → Hid (w6.heap[G]? = some (.cells (vB (splice Y (i * s + k0) (List.replicate (t - k0) 0))).toArray 5 (0, 0))) → Chg (fun k => k = G) w5 w6 → Vo w6 B G s (V.set i (tearL (V.getD i []) L t)) ∧ Chg (fun k => k = G) w' w6 := by
    intro w5 w6 h5 hc5 h6 hc6
    have h6' := h6.out
    rw [HX.out] at h6'
    have hc := hc5.trans hc6 (fun k _ h => h)
    have hch := (Chg.of_below (S := fun k => k = G) HB4.out).trans hc (fun k _ h => h)
    refine ⟨⟨?_, h6', ?_, H4.out.ne, by rw [List.length_set]; exact H4.out.n, H4.out.s⟩, hch⟩
    · have h7 := (hc.block B (block_lt H4.out.blk) H4.out.ne).trans H4.out.blk
      rw [List.length_set]
      exact h7
    · exact mem_set_len H4.out.len (by rw [tear_len _ _ _ (by rw [getD_len H4.out.len HI.out]; exact hkl)]; exact getD_len H4.out.len HI.out)
  have HEND := Lib.hid hend
  clear hend
  have hpos : 0 < t - k0 → (if cc = k0 then some (⟨G, i * s, none⟩ : Addr) else some ⟨G, i * s + k0, none⟩) = some ⟨G, i * s + k0, none⟩ := fun h => if_neg (by omega)
  have HPOS := Lib.hid hpos
  clear hpos
  go_wp2_with (first | ((with_reducible refine wpList_copy_op (dp := some ⟨G, i * s, none⟩) (dLen := t) (dCap := cc) (m := k0) (off := i * s) H4.out.row HL4.out HK0.out (fun _ => rfl) hfit ?_ ?_ ?_); rfl; rfl; rw [hy]; intro w5 h5 hc5) | ((with_reducible refine wpList_clear_op (dp := if cc = k0 then some ⟨G, i * s, none⟩ else some ⟨G, i * s + k0, none⟩) (n := t - k0) (c := cc - k0) (off := i * s + k0) h5.out HPOS.out HFY.out ?_ ?_); rfl; intro w6 h6 hc6))
  all_goals (go_ret; exact ⟨rfl, HEND.out _ _ h5 hc5 h6 hc6⟩)
/-- Tear, whatever comes. -/
theorem tear_any (B G s : Nat) (V : List (List Int)) (i x : Int) (p : Option Addr) (m c : Nat) (L : List Int) (w : World) (h : Vo w B G s V) (hL : BL w p m c L) (hp : 0 < m → ∀ a, p = some a → a.block ≠ G) :
    Calls Try.prog 62 #[.pointer (some ⟨B, 0, none⟩), .int .i64 i, .slice p m c, .int .i64 x] w fun e w' => e = .returned (.int .i64 (tearE s V i L)) ∧ Vo w' B G s (tearV s V i L (kp x s)) ∧ Chg (fun k => k = G) w w' := by
  have hl := hL.len
  by_cases hi : 0 ≤ i ∧ i < V.length
  · by_cases hm : s < m
    · refine (tear_long B G s V i x p m c w h hi hm).mono ?_
      rintro e w' ⟨rfl, rfl⟩
      refine ⟨?_, ?_, Chg.refl _ _⟩
      · unfold tearE
        rw [if_neg (fun h => h hi), if_pos (by omega)]
      · unfold tearV
        rw [if_neg (fun h => by omega)]
        exact h
    · obtain ⟨j, rfl⟩ : ∃ j : Nat, i = j := ⟨i.toNat, by omega⟩
      refine (tear_good B G s V j x p m c L w h (by omega) hL (by omega) hp).mono ?_
      rintro e w' ⟨rfl, hv, hc⟩
      refine ⟨?_, ?_, hc⟩
      · unfold tearE
        rw [if_neg (fun h => h hi), if_neg (by omega)]
      · unfold tearV
        rw [if_pos ⟨hi, by omega⟩, Int.toNat_natCast]
        exact hv
  · refine (tear_none B G s V i x p m c w h hi).mono ?_
    rintro e w' ⟨rfl, rfl⟩
    refine ⟨?_, ?_, Chg.refl _ _⟩
    · unfold tearE
      rw [if_pos hi]
    · unfold tearV
      rw [if_neg (fun h => hi h.1)]
      exact h
theorem kp_self (s : Nat) : kp (s : Nat) (s : Nat) = s := by unfold kp; omega
/-- Put, whatever comes. -/
theorem put_any (B G s : Nat) (V : List (List Int)) (i : Int) (p : Option Addr) (m c : Nat) (L : List Int) (w : World) (h : Vo w B G s V) (hL : BL w p m c L) (hp : 0 < m → ∀ a, p = some a → a.block ≠ G) :
    Calls Try.prog 48 #[.pointer (some ⟨B, 0, none⟩), .int .i64 i, .slice p m c] w fun e w' => e = .returned (.int .i64 (tearE s V i L)) ∧ Vo w' B G s (tearV s V i L s) ∧ Chg (fun k => k = G) w w' := by
  have hs := size_any B G s V w h
  have ht := tear_any B G s V i (s : Nat) p m c L w h hL hp
  rw [kp_self] at ht
  clear h hL hp
  generalize tearE s V i L = e0 at *
  generalize tearV s V i L s = V0 at *
  go_enter Try.func48, Try.ntmps48
  go_wp2_with fail
  refine hs.mono ?_
  rintro e w' ⟨rfl, rfl⟩
  go_wp2_with fail
  refine ht.mono ?_
  rintro e w2 ⟨rfl, hv, hc⟩
  go_wp2_with fail
  go_ret
  exact ⟨rfl, hv, hc⟩
end Go.Proofs.Ytdkpjaobfohdfaa
