/- Crash, by the document. -/
import Derived.Test.YtdkpjaobfohdfaaPartB
import Derived.Deep.DeepCutAuto
namespace Go.Proofs.Ytdkpjaobfohdfaa
open Go.RowKit Go.ChangeShapes Go.WideShapes
set_option linter.unusedVariables false
set_option maxRecDepth 10000
set_option linter.unusedSimpArgs false

theorem crV_at {s : Nat} {x : Int} {V : List (List Int)} {L : List Dw} {k : Nat} {y : Dw} {R : List Dw} (h : L.drop k = y :: R) : crV s x V L k = dwVn s x (foldV s V (L.take k)) y := by
  unfold crV
  rw [h]
theorem crT_at {z : Nat} {x : Int} {t : TS} {L : List Dw} {k : Nat} {y : Dw} {R : List Dw} (h : L.drop k = y :: R) : crT z x t L k = dwTn x (foldT z t (L.take k)) y := by
  unfold crT
  rw [h]
theorem crV_end {s : Nat} {x : Int} {V : List (List Int)} {L : List Dw} : crV s x V L L.length = foldV s V L := by
  unfold crV
  rw [List.drop_length, List.take_length]
theorem crT_end {z : Nat} {x : Int} {t : TS} {L : List Dw} : crT z x t L L.length = foldT z t L := by
  unfold crT
  rw [List.drop_length, List.take_length]
/-- The numbers that Crash counts with. -/
def nn (x : Int) : Int := if x < 0 then 0 else x
theorem kp_nn (x : Int) (m : Nat) : kp (nn x) m = kp x m := by
  unfold nn kp
  split
  · omega
  · rfl
theorem dwVn_nn (s : Nat) (x : Int) (V : List (List Int)) (y : Dw) : dwVx s (nn x) V y = dwVn s x V y := by
  have h0 : ¬ nn x < 0 := by unfold nn; split <;> omega
  have h1 : dwVx s (nn x) V y = dwVn s (nn x) V y := if_neg h0
  rw [h1]
  cases y <;> simp [dwVn, kp_nn]
theorem dwTn_nn (z : Nat) (x : Int) (t : TS) (y : Dw) : dwTx z (nn x) t y = dwTn x t y := by
  have h0 : ¬ nn x < 0 := by unfold nn; split <;> omega
  have h1 : dwTx z (nn x) t y = dwTn (nn x) t y := if_neg h0
  rw [h1]
  cases y <;> simp [dwTn, kp_nn]
/-- Four new blocks. -/
theorem four_boxes (w : World) (c0 c1 c2 c3 : Array Value) (T0 T1 T2 T3 : TypeId) : ∃ W, W = (((w.alloc (.cells c0 T0)).alloc (.cells c1 T1)).alloc (.cells c2 T2)).alloc (.cells c3 T3) ∧ W.heap[w.heap.size]? = some (.cells c0 T0 (0, 0)) ∧ W.heap[w.heap.size + 1]? = some (.cells c1 T1 (0, 0)) ∧ W.heap[w.heap.size + 1 + 1]? = some (.cells c2 T2 (0, 0)) ∧
    W.heap[w.heap.size + 1 + 1 + 1]? = some (.cells c3 T3 (0, 0)) ∧ Below w.heap.size w W ∧ W.heap.size = w.heap.size + 4 := by
  refine ⟨_, rfl, ?_⟩
  obtain ⟨a0, a1, ab⟩ := two_boxes w c0 c1 T0 T1
  have s2 : ((w.alloc (.cells c0 T0)).alloc (.cells c1 T1)).heap.size = w.heap.size + 1 + 1 := by simp
  have b4 := two_boxes ((w.alloc (.cells c0 T0)).alloc (.cells c1 T1)) c2 c3 T2 T3
  rw [s2] at b4
  have hB : Below (w.heap.size + 1 + 1) ((w.alloc (.cells c0 T0)).alloc (.cells c1 T1)) ((((w.alloc (.cells c0 T0)).alloc (.cells c1 T1)).alloc (.cells c2 T2)).alloc (.cells c3 T3)) := b4.2.2
  refine ⟨?_, ?_, b4.1, b4.2.1, ab.trans (hB.mono (by omega)), by simp⟩
  · rw [hB.block _ (by omega)]; exact a0
  · rw [hB.block _ (by omega)]; exact a1
theorem Ce.start {w W : World} {Q : Nat → Prop} {s z n ln lc n1 F1 : Nat} {p tp lp : Option Addr} {c tc : Nat} {dc : Array Value} {AL : List Wd} {V : List (List Int)} {t : TS}
    (h0 : W.heap[w.heap.size]? = some (.cells dc 36 (0, 0))) (h1 : W.heap[w.heap.size + 1]? = some (.cells rdz 36 (0, 0))) (h3 : W.heap[w.heap.size + 1 + 1]? = some (.cells #[.slice p n c, .int .i64 (s : Nat)] 30 (0, 0))) (h4 : W.heap[w.heap.size + 1 + 1 + 1]? = some (.cells #[.slice tp n1 tc, .int .i64 (F1 : Nat), .int .i64 (z : Nat)] 33 (0, 0)))
    (hb : Below w.heap.size w W) (hsz : W.heap.size = w.heap.size + 4) (hV : RV w Q p c s V) (hn : V.length = n) (hT : Rt w tp tc t.B) (htq : 0 < t.B.length → ∀ a, tp = some a → Q a.block) (hn1 : t.B.length = n1) (hF1 : t.f * z = F1) (hrow : SlG ewd 4 wd0' w lp ln lc AL) (hok : ∀ y ∈ AL, y.ok w Q) :
    Ce w W Q w.heap.size s z n ln lc dc lp AL V t p tp c tc n1 F1 := by
  refine ⟨h0, h1, h3, h4, (hV.mono fun k hk hl => ⟨hk, by omega⟩).later hb, hT.later hb, fun h a ha => ⟨htq h a ha, by have := hT.lt h a ha; omega⟩, hn1, hF1, SlG.later hrow hb, fun h a ha => ?_, fun y hy => ((hok y hy).mono fun k hk hl => ⟨hk, by omega⟩).later hb, hb, by omega, rfl, hn⟩
  obtain ⟨b, off, hp, hlt, _⟩ := hrow.cell h
  rw [hp] at ha
  cases ha
  show ¬ (w.heap.size ≤ b ∧ b < w.heap.size + 4)
  omega
/-- What the volume and the tape are, j writes on. -/
def At (s z : Nat) (tear : Int) (V : List (List Int)) (t : TS) (L : List Dw) (K : Int) (kk j : Nat) (tot : Nat) (V' : List (List Int)) (t' : TS) : Prop :=
  if (j : Int) ≤ K then V' = foldV s V (L.take j) ∧ t' = foldT z t (L.take j) ∧ t'.len z + wts (L.drop j) ≤ tot else V' = crV s tear V L kk ∧ t' = crT z tear t L kk
theorem dwVx_len (s : Nat) (x : Int) (V : List (List Int)) (y : Dw) : (dwVx s x V y).length = V.length := by
  unfold dwVx
  split
  · exact dwV_len ..
  · exact dwVn_len ..
theorem At.end {s z : Nat} {tear : Int} {V : List (List Int)} {t : TS} {L : List Dw} {K : Int} {kk j tot ln : Nat} {V' : List (List Int)} {t' : TS} (h : At s z tear V t L K kk j tot V' t') (hL : L.length = ln) (hk : kk = min K.toNat ln) (hj : j = ln ∨ ¬ (j : Int) ≤ K) : V' = crV s tear V L kk ∧ t' = crT z tear t L kk := by
  unfold At at h
  split at h
  · rename_i h1
    obtain rfl : j = ln := by omega
    have hkk : kk = L.length := by omega
    have h2 : L.take j = L := List.take_of_length_le (by omega)
    rw [h2] at h
    rw [hkk, crV_end, crT_end]
    exact ⟨h.1, h.2.1⟩
  · exact h
theorem At.whole {s z : Nat} {tear : Int} {V : List (List Int)} {t : TS} {L : List Dw} {K : Int} {kk j tot : Nat} {V' : List (List Int)} {t' : TS} {y : Dw} (h : At s z tear V t L K kk j tot V' t') (hz : 0 < z) (hj : (j : Int) < K) (e1 : L.drop j = y :: L.drop (j + 1)) (e2 : L.take (j + 1) = L.take j ++ [y]) : At s z tear V t L K kk (j + 1) tot (dwVx s (-1) V' y) (dwTx z (-1) t' y) := by
  unfold At at *
  rw [if_pos (by omega)] at h
  rw [if_pos (by omega), dwVx_all, dwTx_all, e2, foldV_snoc, foldT_snoc]
  obtain ⟨h1, h2, h3⟩ := h
  have h4 := dwT_len hz t' y
  rw [e1, wts_cons] at h3
  refine ⟨by rw [h1], by rw [h2], by omega⟩
theorem At.torn {s z : Nat} {tear : Int} {V : List (List Int)} {t : TS} {L : List Dw} {K X : Int} {kk j tot ln : Nat} {V' : List (List Int)} {t' : TS} {y : Dw} (h : At s z tear V t L K kk j tot V' t') (hX : nn tear = X) (hj : (j : Int) ≤ K) (hj2 : ¬ (j : Int) < K) (hln : j < ln) (hk : kk = min K.toNat ln) (e1 : L.drop j = y :: L.drop (j + 1)) : At s z tear V t L K kk (j + 1) tot (dwVx s X V' y) (dwTx z X t' y) := by
  unfold At at *
  rw [if_pos hj] at h
  obtain ⟨h1, h2, h3⟩ := h
  have hkk : kk = j := by omega
  subst hkk
  rw [if_neg (by omega), crV_at e1, crT_at e1, ← hX, dwVn_nn, dwTn_nn, h1, h2]
  exact ⟨rfl, rfl⟩
set_option maxHeartbeats 8000000 in
theorem crash_walk (w : World) (Q : Nat → Prop) (hQ : ∀ k, w.heap.size ≤ k → Q k) (s z n ln lc n1 F1 M : Nat) (p tp lp : Option Addr) (c tc : Nat) (AL : List Wd) (V : List (List Int)) (t : TS) (tot : Nat) (hn4 : n ≤ 1024) (hs4 : s ≤ 4096) (hz : 64 ≤ z ∧ z ≤ 4096) (hbig : tot ≤ 1000000)
    (hV : RV w Q p c s V) (hn : V.length = n) (hT : Rt w tp tc t.B) (htq : 0 < t.B.length → ∀ a, tp = some a → Q a.block) (hn1 : t.B.length = n1) (hF1 : t.f * z = F1) (hrow : SlG ewd 4 wd0' w lp ln lc AL) (hok : ∀ y ∈ AL, y.ok w Q) (htot : t.len z + wts (AL.map Wd.x) ≤ tot) (keep tear : Int) :
    Calls Try.prog 23 #[.agg (rdc p n c s tp n1 tc F1 z lp ln lc M), .int .i64 keep, .int .i64 tear] w fun e w' =>
      ∃ p' c' tp' tc' n' F', e = .returned (.agg (rdc p' n c' s tp' n' tc' F' z none 0 0 M)) ∧ RV w' Q p' c' s (crV s tear V (AL.map Wd.x) (kp keep ln)) ∧ Rt w' tp' tc' (crT z tear t (AL.map Wd.x) (kp keep ln)).B ∧ (0 < (crT z tear t (AL.map Wd.x) (kp keep ln)).B.length → ∀ a, tp' = some a → Q a.block) ∧ (crT z tear t (AL.map Wd.x) (kp keep ln)).B.length = n' ∧ (crT z tear t (AL.map Wd.x) (kp keep ln)).f * z = F' ∧ Below w.heap.size w w' := by
  obtain ⟨W1, hW1, h0, h1, h3, h4, hbw, hsz⟩ := four_boxes w (rdc p n c s tp n1 tc F1 z lp ln lc M) rdz #[.slice p n c, .int .i64 (s : Nat)] #[.slice tp n1 tc, .int .i64 (F1 : Nat), .int .i64 (z : Nat)] 36 36 30 33
  have HS0 := Lib.hid (Ce.start (Q := Q) (dc := rdc p n c s tp n1 tc F1 z lp ln lc M) h0 h1 h3 h4 hbw hsz hV hn hT htq hn1 hF1 hrow hok)
  have HW1 := Lib.hid hW1
  have HL := Lib.hid hrow.len
  have HN := Lib.hid hn
  have HCAP : Hid (ln ≤ lc ∧ lc ≤ maxLen) := Lib.hid ⟨hrow.cap, hrow.max⟩
  have hK0 : ((0 : Nat) : Int) ≤ nn keep := by unfold nn; split <;> omega
  have HAT0 : Hid (At s z tear V t (AL.map Wd.x) (nn keep) (kp keep ln) 0 tot V t) := Lib.hid (by
    unfold At
    rw [if_pos hK0]
    exact ⟨rfl, rfl, htot⟩)
  have HKK : Hid (kp keep ln = min (nn keep).toNat ln) := Lib.hid (by unfold kp nn; split <;> omega)
  clear hW1 h0 h1 h3 h4 hbw hsz hV hn hT htq hn1 hF1 hrow hok htot
  go_enter Try.func23, Try.ntmps23
  go_upto_if 11 with fail
  go_cut [1] (fun s1 wx => s1 = .int .i64 (nn keep) ∧ wx = (w.alloc (.cells (rdc p n c s tp n1 tc F1 z lp ln lc M) 36)).alloc (.cells rdz 36))
  case first =>
    go_wp2_with fail
    all_goals
      go_meet
      refine ⟨?_, rfl⟩
      first | rw [show nn keep = keep from if_neg (by omega)] | rw [show nn keep = 0 from if_pos (by omega)]
  case rest =>
  obtain ⟨rfl, rfl⟩ := hcut
  go_upto_if 13 with fail
  go_cut [2] (fun s2 wx => s2 = .int .i64 (nn tear) ∧ wx = (w.alloc (.cells (rdc p n c s tp n1 tc F1 z lp ln lc M) 36)).alloc (.cells rdz 36))
  case first =>
    go_wp2_with fail
    all_goals
      go_meet
      refine ⟨?_, rfl⟩
      first | rw [show nn tear = tear from if_neg (by omega)] | rw [show nn tear = 0 from if_pos (by omega)]
  case rest =>
  obtain ⟨rfl, rfl⟩ := hcut
  generalize hK : nn keep = K at *
  generalize hX : nn tear = X at *
  have HX := Lib.hid hX
  clear hX hK
  go_wp2_with fail
  rw [← HW1.out]
  clear HW1
  go_loopw [9] (fun i wr => ∃ (j : Nat) (pj tpj : Option Addr) (cj tcj nj Fj : Nat) (V' : List (List Int)) (t' : TS), j ≤ ln ∧ i = .int .i64 (j : Nat) ∧ Hid (Ce w wr Q w.heap.size s z n ln lc (rdc p n c s tp n1 tc F1 z lp ln lc M) lp AL V' t' pj tpj cj tcj nj Fj) ∧ Hid (At s z tear V t (AL.map Wd.x) K (kp keep ln) j tot V' t')) (fun i _ => ln - (intOf i).toNat)
  case atStart => exact ⟨0, p, tp, c, tc, n1, F1, V, t, Nat.zero_le _, rfl, HS0, HAT0⟩
  case round =>
    obtain ⟨j, pj, tpj, cj, tcj, nj, Fj, V', t', hj, rfl, HF, HAT⟩ := hrel
    have hcap := HCAP.out.1
    have hmax := HCAP.out.2
    have hln : ln ≤ 9223372036854775807 := by
      have h1 := hcap
      have h2 := hmax
      unfold maxLen at h2
      omega
    have x5 := block_cell (j := 5) HF.out.bD (v := .slice lp ln lc) rfl
    have v0 := block_cell (j := 0) HF.out.b3 (v := .slice pj n cj) rfl
    have v1 := block_cell (j := 1) HF.out.b3 (v := .int .i64 (s : Nat)) rfl
    have t0 := block_cell (j := 0) HF.out.b4 (v := .slice tpj nj tcj) rfl
    have t1 := block_cell (j := 1) HF.out.b4 (v := .int .i64 (Fj : Nat)) rfl
    have t2 := block_cell (j := 2) HF.out.b4 (v := .int .i64 (z : Nat)) rfl
    by_cases hlt : j < ln ∧ (j : Int) ≤ K
    · obtain ⟨hlt, hjK⟩ := hlt
      have hlt' : (j : Int) < ln := by omega
      have hlt2 : decide ((j : Int) < (ln : Int)) = true := decide_eq_true hlt'
      have hjK2 : decide ((j : Int) ≤ K) = true := decide_eq_true hjK
      have hbj : t'.len z + wts ((AL.map Wd.x).drop j) ≤ 1000000 := by
        have h1 := HAT.out
        unfold At at h1
        rw [if_pos hjK] at h1
        omega
      by_cases hj2 : (j : Int) < K
      · obtain ⟨y, b, off, hlp, k0, k1, k2, k3, hdo, e1, e2⟩ := HF.out.next hlt hQ hn4 hs4 hz hbj (-1)
        subst hlp
        have HNX := Lib.hid (HAT.out.whole (by omega) hj2 e1 e2)
        have HCALL := Lib.hid hdo
        clear hdo e1 e2
        generalize y.k = yk at *
        generalize y.i = yi at *
        generalize y.q = yq at *
        generalize y.m = ym at *
        generalize y.cq = ycq at *
        generalize y.n = yn at *
        go_wp2_with fail
        go_region_law (first | (go_simp; go_at_call 46; refine (HCALL.out _).mono ?_; rintro e w5 ⟨p5, c5, tp5, tc5, n5, F5, rfl, H5⟩; have r3 := block_later HF.out.b3 H5.out.2.2.2.2.2; have r4 := block_later HF.out.b4 H5.out.2.2.2.2.2; have HA := Lib.hid (two_done (.slice p5 n c5) (.int .i64 (s : Nat)) (.slice tp5 n5 tc5) (.int .i64 (F5 : Nat)) (.int .i64 (z : Nat)) r3 r4 (by omega)); have HB := Lib.hid (two_done' (.slice p5 n c5) (.int .i64 (s : Nat)) (.slice tp5 n5 tc5) (.int .i64 (F5 : Nat)) (.int .i64 (z : Nat)) r3 r4 (by omega)); have v5 := block_cell (j := 0) r3 (v := .slice pj n cj) rfl; have v6 := block_cell (j := 1) r3 (v := .int .i64 (s : Nat)) rfl; have t5 := block_cell (j := 0) r4 (v := .slice tpj nj tcj) rfl; have t6 := block_cell (j := 1) r4 (v := .int .i64 (Fj : Nat)) rfl; have t7 := block_cell (j := 2) r4 (v := .int .i64 (z : Nat)) rfl; have e0 := block_free 0 r3; have e1 := block_free 1 r3; have f0 := block_free 0 r4; have f1 := block_free 1 r4; have f2 := block_free 2 r4; clear r3 r4))
        all_goals go_wp2_with fail
        all_goals
          go_roundw
          case rel =>
            refine ⟨j + 1, p5, tp5, c5, tc5, n5, F5, _, _, by omega, by go_num, Lib.hid ?_, HNX⟩
            first
              | exact HF.out.step H5 (dwVx_len ..) HA.out.1 HA.out.2.1 HA.out.2.2
              | exact HF.out.step H5 (dwVx_len ..) HB.out.1 HB.out.2.1 HB.out.2.2
              | exact HF.out.step H5 (dwVx_len ..) HA.out.1 HA.out.2.1 (HA.out.2.2.drewN 1)
              | exact HF.out.step H5 (dwVx_len ..) HB.out.1 HB.out.2.1 (HB.out.2.2.drewN 1)
          case measure => simp [intOf]; omega
      · obtain ⟨y, b, off, hlp, k0, k1, k2, k3, hdo, e1, e2⟩ := HF.out.next hlt hQ hn4 hs4 hz hbj X
        subst hlp
        have HNX := Lib.hid (HAT.out.torn HX.out hjK hj2 hlt HKK.out e1)
        have HCALL := Lib.hid hdo
        clear hdo e1 e2
        generalize y.k = yk at *
        generalize y.i = yi at *
        generalize y.q = yq at *
        generalize y.m = ym at *
        generalize y.cq = ycq at *
        generalize y.n = yn at *
        go_wp2_with fail
        go_region_law (first | (go_simp; go_at_call 46; refine (HCALL.out _).mono ?_; rintro e w5 ⟨p5, c5, tp5, tc5, n5, F5, rfl, H5⟩; have r3 := block_later HF.out.b3 H5.out.2.2.2.2.2; have r4 := block_later HF.out.b4 H5.out.2.2.2.2.2; have HA := Lib.hid (two_done (.slice p5 n c5) (.int .i64 (s : Nat)) (.slice tp5 n5 tc5) (.int .i64 (F5 : Nat)) (.int .i64 (z : Nat)) r3 r4 (by omega)); have HB := Lib.hid (two_done' (.slice p5 n c5) (.int .i64 (s : Nat)) (.slice tp5 n5 tc5) (.int .i64 (F5 : Nat)) (.int .i64 (z : Nat)) r3 r4 (by omega)); have v5 := block_cell (j := 0) r3 (v := .slice pj n cj) rfl; have v6 := block_cell (j := 1) r3 (v := .int .i64 (s : Nat)) rfl; have t5 := block_cell (j := 0) r4 (v := .slice tpj nj tcj) rfl; have t6 := block_cell (j := 1) r4 (v := .int .i64 (Fj : Nat)) rfl; have t7 := block_cell (j := 2) r4 (v := .int .i64 (z : Nat)) rfl; have e0 := block_free 0 r3; have e1 := block_free 1 r3; have f0 := block_free 0 r4; have f1 := block_free 1 r4; have f2 := block_free 2 r4; clear r3 r4))
        all_goals go_wp2_with fail
        all_goals
          go_roundw
          case rel =>
            refine ⟨j + 1, p5, tp5, c5, tc5, n5, F5, _, _, by omega, by go_num, Lib.hid ?_, HNX⟩
            first
              | exact HF.out.step H5 (dwVx_len ..) HA.out.1 HA.out.2.1 HA.out.2.2
              | exact HF.out.step H5 (dwVx_len ..) HB.out.1 HB.out.2.1 HB.out.2.2
              | exact HF.out.step H5 (dwVx_len ..) HA.out.1 HA.out.2.1 (HA.out.2.2.drewN 1)
              | exact HF.out.step H5 (dwVx_len ..) HB.out.1 HB.out.2.1 (HB.out.2.2.drewN 1)
          case measure => simp [intOf]; omega
    · have hE := HAT.out.end (ln := ln) (by rw [List.length_map, HL.out]) HKK.out (by omega)
      have hF := HF.out
      have g1 := hF.bR
      have x6 := block_cell (j := 6) hF.bD (v := .int .i64 (M : Nat)) rfl
      have HP := Lib.hid (seven_put (.slice pj n cj) (.int .i64 (s : Nat)) (.slice tpj nj tcj) (.int .i64 (Fj : Nat)) (.int .i64 (z : Nat)) (.slice none 0 0) (.int .i64 (M : Nat)) g1)
      have y0 := block_cell (j := 0) g1 (v := .slice none 0 0) rfl
      have y1 := block_cell (j := 1) g1 (v := .int .i64 0) rfl
      have y2 := block_cell (j := 2) g1 (v := .slice none 0 0) rfl
      have y3 := block_cell (j := 3) g1 (v := .int .i64 0) rfl
      have y4 := block_cell (j := 4) g1 (v := .int .i64 0) rfl
      have y5 := block_cell (j := 5) g1 (v := .slice none 0 0) rfl
      have y6 := block_cell (j := 6) g1 (v := .int .i64 0) rfl
      have z0 := block_free 0 g1
      have z1 := block_free 1 g1
      have z2 := block_free 2 g1
      have z3 := block_free 3 g1
      have z4 := block_free 4 g1
      have z5 := block_free 5 g1
      have z6 := block_free 6 g1
      have HEND : Hid (∀ W', Chg (fun k => k = w.heap.size + 1) wr W' → RV W' Q pj cj s (crV s tear V (AL.map Wd.x) (kp keep ln)) ∧ Rt W' tpj tcj (crT z tear t (AL.map Wd.x) (kp keep ln)).B ∧ (0 < (crT z tear t (AL.map Wd.x) (kp keep ln)).B.length → ∀ a, tpj = some a → Q a.block) ∧ (crT z tear t (AL.map Wd.x) (kp keep ln)).B.length = nj ∧ (crT z tear t (AL.map Wd.x) (kp keep ln)).f * z = Fj ∧ Below w.heap.size w W') := Lib.hid fun W' hc => by
        rw [← hE.1, ← hE.2]
        have hA := hF.hA
        exact ⟨(hF.rv.keep hc fun k hk hs => by omega).mono fun k hk _ => hk.1, hF.rt.keep hc fun h0 a ha hs => by have := (hF.tq h0 a ha).2; omega, fun h0 a ha => (hF.tq h0 a ha).1, hF.hn, hF.hF, hc.below hF.below hF.below.size fun k hk => by omega⟩
      clear hE hF g1
      by_cases hl1 : j < ln
      · have hl2 : ¬ (j : Int) ≤ K := by omega
        have hd1 : decide ((j : Int) < (ln : Int)) = true := decide_eq_true (by omega)
        have hd2 : decide ((j : Int) ≤ K) = false := decide_eq_false hl2
        clear hlt
        go_wp2_with fail
        refine bodyPost_ret (v := .agg #[.slice pj n cj, .int .i64 (s : Nat), .slice tpj nj tcj, .int .i64 (Fj : Nat), .int .i64 (z : Nat), .slice none 0 0, .int .i64 (M : Nat)]) ?_ rfl ?_
        · exact results_cell_row rfl _ _ (w.heap.size + 1) 36 _ (0, 0) _ rfl HP.out.1 Try.underlying36 rfl (by kernel_rfl)
        · exact ⟨pj, cj, tpj, tcj, nj, Fj, rfl, HEND.out _ HP.out.2⟩
      · have hd1 : decide ((j : Int) < (ln : Int)) = false := decide_eq_false (by omega)
        have hl2 : ¬ (j : Int) < (ln : Int) := by omega
        clear hlt
        go_wp2_with fail
        refine bodyPost_ret (v := .agg #[.slice pj n cj, .int .i64 (s : Nat), .slice tpj nj tcj, .int .i64 (Fj : Nat), .int .i64 (z : Nat), .slice none 0 0, .int .i64 (M : Nat)]) ?_ rfl ?_
        · exact results_cell_row rfl _ _ (w.heap.size + 1) 36 _ (0, 0) _ rfl HP.out.1 Try.underlying36 rfl (by kernel_rfl)
        · exact ⟨pj, cj, tpj, tcj, nj, Fj, rfl, HEND.out _ HP.out.2⟩
theorem refcrash_any {p tp lp : Option Addr} {c tc lc : Nat} (d : DS) (w : World) (Q : Nat → Prop) (hQ : ∀ k, w.heap.size ≤ k → Q k) (h : Rd w Q p c tp tc lp lc d) (hbig : d.tot ≤ 1000000) (keep tear : Int) :
    Calls Try.prog 23 #[.agg (rdc p d.V.length c d.s tp d.t.B.length tc (d.t.f * d.z) d.z lp d.L.length lc d.M), .int .i64 keep, .int .i64 tear] w (RdGives w Q (d.crash keep tear)) := by
  obtain ⟨⟨AL, hrow, hmap, hok⟩, hlq⟩ := h.td
  have h1 := crash_walk w Q hQ d.s d.z d.V.length d.L.length lc d.t.B.length (d.t.f * d.z) d.M p tp lp c tc AL d.V d.t d.tot h.n4 h.s4 h.z hbig h.rv rfl h.rt h.tq rfl rfl hrow hok (by rw [hmap]; exact Nat.le_refl _) keep tear
  rw [hmap] at h1
  refine h1.mono ?_
  rintro e w' ⟨p', c', tp', tc', n', F', rfl, g1, g2, g3, g4, g5, g6⟩
  have hl : (d.crash keep tear).V.length = d.V.length := crV_len ..
  refine ⟨p', c', tp', tc', none, 0, ?_, ⟨g1, g2, g3, Td.nil _ _, by rw [hl]; exact h.n4, h.s4, h.z⟩, g6⟩
  rw [hl, ← g4, ← g5]
  rfl
end Go.Proofs.Ytdkpjaobfohdfaa
