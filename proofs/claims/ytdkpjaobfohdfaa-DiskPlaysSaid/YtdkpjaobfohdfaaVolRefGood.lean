/- The document's Tear, where there is such a block, and room. -/
import Derived.Test.YtdkpjaobfohdfaaVolRefTear
namespace Go.Proofs.Ytdkpjaobfohdfaa
open Go.RowKit Go.ChangeShapes Go.WideShapes
set_option linter.unusedVariables false
set_option maxRecDepth 10000
set_option linter.unusedSimpArgs false

theorem byte_news (w : World) (x : Int) : ∀ i u, (eb x)[i]? = some u → (w.alloc (.cells #[.int .u8 x] 5)).cell? ⟨w.heap.size, i, none⟩ = some u := fun i u hu => by
  refine block_cell (alloc_block w (.cells #[.int .u8 x] 5)) ?_
  rw [List.getElem?_toArray]
  exact hu
theorem byte_own {W1 wr : World} {v : Value} {M : List Int} {N : Nat} {x : Int} (h : FillG eb 1 5 W1 wr v M N) : (wr.alloc (.cells #[.int .u8 x] 5)).ownsRow W1.heap.size 5 1 v M.length (flatG eb M) := h.own.alloc _
theorem byte_step {W1 wr : World} {v : Value} {V : List Int} {j N : Nat} {x : Int} (h : FillG eb 1 5 W1 wr v (V.take j) N) (hj : j < V.length) (hx : V.getD j 0 = x) :
    ∀ v' w', w'.ownsRow W1.heap.size 5 1 v' ((V.take j).length + 1) (flatG eb (V.take j ++ [x])) → (wr.alloc (.cells #[.int .u8 x] 5)).grownBy w' v.ownBlock → FillG eb 1 5 W1 w' v' (V.take (j + 1)) (N + 1) := by
  intro v' w' h1 h2
  have e : V.take (j + 1) = V.take j ++ [x] := by
    rw [List.take_add_one, ← hx, List.getD, List.getElem?_eq_getElem hj]
    rfl
  rw [e]
  exact h.step _ h1 h2
theorem take_more {V : List (List Int)} {j : Nat} (hj : j < V.length) : V.take (j + 1) = V.take j ++ [V.getD j []] := by
  rw [List.take_add_one, List.getD, List.getElem?_eq_getElem hj]
  rfl
set_option maxHeartbeats 8000000 in
set_option maxRecDepth 100000 in
theorem reftear_good (p : Option Addr) (c n s : Nat) (V : List (List Int)) (i : Nat) (x : Int) (q : Option Addr) (m cq : Nat) (b : List Int) (w : World) (Q : Nat → Prop) (hn0 : ∀ k, w.heap.size ≤ k → Q k) (hV : RV w Q p c s V) (hn : V.length = n) (hn4 : n ≤ 1024) (hs4 : s ≤ 4096) (hi : i < n) (hb : BL w q m cq b) (hm : m ≤ s) :
    Calls Try.prog 58 #[.agg #[.slice p n c, .int .i64 (s : Nat)], .int .i64 (i : Nat), .slice q m cq, .int .i64 x] w fun e w' => ∃ p' c', e = .returned (.tuple #[.agg #[.slice p' n c', .int .i64 (s : Nat)], .int .i64 0]) ∧ RV w' Q p' c' s (V.set i (tearL (V.getD i []) b (kp x s))) ∧ Below w.heap.size w w' := by
  have HX := Lib.hid (two_vols w (.slice p n c) (.int .i64 (s : Nat)) (.slice none 0 0) (.int .i64 0))
  have HB := Lib.hid (two_below w (.slice p n c) (.int .i64 (s : Nat)) (.slice none 0 0) (.int .i64 0))
  have HY := Lib.hid (block_later (alloc_block w (.cells #[.slice p n c, .int .i64 (s : Nat)] 30)) ((Below.refl _ _).alloc (Nat.le_refl _) (.cells #[.slice none 0 0, .int .i64 0] 30)))
  have hlen := hV.len
  have HLEN := Lib.hid hlen
  have HV := Lib.hid hV
  have HBB := Lib.hid hb
  have HNN := Lib.hid hn
  have HN0 := Lib.hid hn0
  have hold : (V.getD i []).length = s := getD_len hlen (by omega)
  have hbl : b.length = m := hb.len
  have hts : kp x (s : Nat) ≤ s := by have := kp_le x (s : Nat) (by omega); omega
  have HT : Hid (∀ k : Nat, k < s → ((k : Int) < x ↔ k < kp x (s : Nat))) := Lib.hid fun k hk => by unfold kp; omega
  have hi0 : ¬ (i : Int) < 0 := by omega
  have hi1 : ¬ (n : Int) ≤ (i : Int) := by omega
  have hi2 : (i : Int) < (n : Int) := by omega
  have hm' : ¬ (s : Int) < (m : Int) := by omega
  clear hV hb hlen hn hn0
  generalize hk : kp x (s : Nat) = t at *
  clear hk
  generalize hO : V.getD i [] = old at *
  have HOLD := Lib.hid hO
  clear hO
  have hTL : (tearL old b t).length = s := by rw [tear_len _ _ _ (by omega)]; exact hold
  have HTA : Hid (∀ k, k < s → (tearL old b t).getD k 0 = if k < t then (if k < m then b.getD k 0 else 0) else old.getD k 0) := Lib.hid fun k hk => by rw [← hbl]; exact tear_at old b t k (by omega) (by omega)
  go_enter Try.func58, Try.ntmps58
  go_wp2_with fail
  generalize hW1 : (w.alloc (.cells #[.slice p n c, .int .i64 (s : Nat)] 30)).alloc (.cells #[.slice none 0 0, .int .i64 0] 30) = W1 at *
  clear hW1
  go_loopw [10, 11] (fun v k wr => ∃ (j : Nat) (v0 : Value), j ≤ s ∧ v = v0 ∧ k = .int .i64 (j : Nat) ∧ Hid (FillG eb 1 5 W1 wr v0 ((tearL old b t).take j) j)) (fun _ k _ => s - (intOf k).toNat)
  case atStart => exact ⟨0, _, Nat.zero_le _, rfl, rfl, Lib.hid (FillG.nil _)⟩
  case round =>
    obtain ⟨j, v0, hj, rfl, rfl, HF⟩ := hrel
    have hy : wr.heap[w.heap.size]? = some (.cells #[.slice p n c, .int .i64 (s : Nat)] 30 (0, 0)) := block_later HY.out HF.out.below
    have y0 := block_cell (j := 0) hy (v := .slice p n c) rfl
    have y1 := block_cell (j := 1) hy (v := .int .i64 (s : Nat)) rfl
    have hbr : Below w.heap.size w wr := HB.out.trans (HF.out.below.mono HB.out.size)
    have HBR := Lib.hid hbr
    clear hy
    obtain ⟨pv, cv, hv, _⟩ := own_bytes HF.out.own
    have hlj : ((tearL old b t).take j).length = j := by rw [List.length_take]; omega
    rw [hlj] at hv
    subst hv
    by_cases hlt : j < s
    · have hlt' : (j : Int) < s := by omega
      have hjm : j ≤ 1000000 := by omega
      have hjl : j < (tearL old b t).length := by omega
      have hva := HTA.out j hlt
      have htj := HT.out j hlt
      obtain ⟨vb, vo, qi, ci, rfl, hc1, hbi, _⟩ := (HV.out.later hbr).one (i := i) (by rw [HNN.out]; exact hi)
      rw [HOLD.out] at hbi
      obtain ⟨ob, oo, rfl, _, hc2⟩ := hbi.at (by omega)
      have hcj := hc2 j hlt
      clear hbr hc2 hbi
      by_cases ht : j < t
      · have htx := htj.2 ht
        by_cases hmj : j < m
        · have hval : (tearL old b t).getD j 0 = b.getD j 0 := by rw [hva, if_pos ht, if_pos hmj]
          have hmj' : (j : Int) < m := by omega
          obtain ⟨bb, bo, rfl, _, hcb⟩ := BL.at (SlG.later HBB.out HBR.out) (by omega)
          have hbj := hcb j hmj
          generalize hz : b.getD j 0 = z at *
          clear hz hcb hva htj
          have HONE : Hid (∀ i u, (eb z)[i]? = some u → (wr.alloc (.cells #[.int .u8 z] 5)).cell? ⟨wr.heap.size, i, none⟩ = some u) := Lib.hid (byte_news wr z)
          have HSTEP := Lib.hid (byte_step (x := z) (V := tearL old b t) HF.out hjl hval)
          rw [hlj] at HSTEP
          have HO2 := Lib.hid (byte_own (x := z) HF.out)
          rw [hlj] at HO2
          have HSZ : Hid (W1.heap.size ≤ (wr.alloc (.cells #[.int .u8 z] 5)).heap.size) := Lib.hid (by have := HF.out.below.size; simp; omega)
          go_wp2_with (at_builtin; refine wpList_append_byte rfl _ _ rfl W1.heap.size _ j ((tearL old b t).take j) rfl HO2.out hjm z wr.heap.size rfl HONE.out HSZ.out ?_; intro v' w3 h1 h2)
          have HN := Lib.hid (HSTEP.out v' w3 h1 h2)
          clear h1 h2 HO2 HONE HSTEP
          go_wp2_with fail
          go_roundw
          case rel => exact ⟨j + 1, _, by omega, rfl, by go_num, HN⟩
          case measure => simp [intOf]; omega
        · have hval : (tearL old b t).getD j 0 = 0 := by rw [hva, if_pos ht, if_neg hmj]
          have hmj' : ¬ (j : Int) < m := by omega
          clear hva htj
          have HONE : Hid (∀ i u, (eb 0)[i]? = some u → (wr.alloc (.cells #[.int .u8 0] 5)).cell? ⟨wr.heap.size, i, none⟩ = some u) := Lib.hid (byte_news wr 0)
          have HSTEP := Lib.hid (byte_step (x := 0) (V := tearL old b t) HF.out hjl hval)
          rw [hlj] at HSTEP
          have HO2 := Lib.hid (byte_own (x := 0) HF.out)
          rw [hlj] at HO2
          have HSZ : Hid (W1.heap.size ≤ (wr.alloc (.cells #[.int .u8 0] 5)).heap.size) := Lib.hid (by have := HF.out.below.size; simp; omega)
          go_wp2_with (at_builtin; refine wpList_append_byte rfl _ _ rfl W1.heap.size _ j ((tearL old b t).take j) rfl HO2.out hjm 0 wr.heap.size rfl HONE.out HSZ.out ?_; intro v' w3 h1 h2)
          have HN := Lib.hid (HSTEP.out v' w3 h1 h2)
          clear h1 h2 HO2 HONE HSTEP
          go_wp2_with fail
          go_roundw
          case rel => exact ⟨j + 1, _, by omega, rfl, by go_num, HN⟩
          case measure => simp [intOf]; omega
      · have htx : ¬ (j : Int) < x := fun h => ht (htj.1 h)
        have hval : (tearL old b t).getD j 0 = old.getD j 0 := by rw [hva, if_neg ht]
        generalize hz : old.getD j 0 = z at *
        clear hz hva htj
        have HONE : Hid (∀ i u, (eb z)[i]? = some u → (wr.alloc (.cells #[.int .u8 z] 5)).cell? ⟨wr.heap.size, i, none⟩ = some u) := Lib.hid (byte_news wr z)
        have HSTEP := Lib.hid (byte_step (x := z) (V := tearL old b t) HF.out hjl hval)
        rw [hlj] at HSTEP
        have HO2 := Lib.hid (byte_own (x := z) HF.out)
        rw [hlj] at HO2
        have HSZ : Hid (W1.heap.size ≤ (wr.alloc (.cells #[.int .u8 z] 5)).heap.size) := Lib.hid (by have := HF.out.below.size; simp; omega)
        go_wp2_with (at_builtin; refine wpList_append_byte rfl _ _ rfl W1.heap.size _ j ((tearL old b t).take j) rfl HO2.out hjm z wr.heap.size rfl HONE.out HSZ.out ?_; intro v' w3 h1 h2)
        have HN := Lib.hid (HSTEP.out v' w3 h1 h2)
        clear h1 h2 HO2 HONE HSTEP
        go_wp2_with fail
        go_roundw
        case rel => exact ⟨j + 1, _, by omega, rfl, by go_num, HN⟩
        case measure => simp [intOf]; omega
    · obtain rfl : s = j := by omega
      obtain ⟨Wb, hWb⟩ : ∃ Wb, Wb = wr := ⟨_, rfl⟩
      subst hWb
      obtain ⟨pv2, cv2, hv2, hbk, hub⟩ := own_bytes HF.out.own
      rw [hlj] at hv2 hbk
      cases hv2
      rw [List.take_of_length_le (by omega)] at hbk
      have HBK := Lib.hid hbk
      have HUB := Lib.hid hub
      have HS0 := Lib.hid (fi_start (wr := Wb) (Q := Q) (s := s) (fun k hk => HN0.out k (by have := hbr.size; omega)))
      have HY2 := Lib.hid (block_later HY.out HF.out.below)
      have HX2 := Lib.hid (block_later HX.out HF.out.below)
      have HV2 := Lib.hid (HV.out.later hbr)
      have hlenV : (V.set i (tearL old b t)).length = n := by rw [List.length_set]; exact HNN.out
      have HLV := Lib.hid hlenV
      have HSI : Hid (∀ j, j < n → (V.set i (tearL old b t)).getD j [] = if i = j then tearL old b t else V.getD j []) := Lib.hid fun j hj => getD_set (by rw [HNN.out]; exact hj)
      have hW1s := HF.out.below.size
      have HWS : Hid (w.heap.size + 1 < Wb.heap.size) := Lib.hid (block_lt HX2.out)
      clear hbk hub hlenV HF HBB
      go_wp2_with fail
      generalize hW3 : Wb.alloc (.cells #[.slice none 0 0, .int .i64 (s : Nat)] 30) = W3 at *
      clear hW3
      generalize hVV : V.set i (tearL old b t) = VV at *
      have HVV := Lib.hid hVV
      clear hVV
      go_loopw [14] (fun k wr => ∃ (j : Nat) (v1 : Value) (L : List (Option Addr × Nat)), j ≤ n ∧ k = .int .i64 (j : Nat) ∧ Hid (Fi Wb wr Q (Wb.heap.size + 1) Wb.heap.size s v1 L (VV.take j))) (fun k _ => n - (intOf k).toNat)
      case atStart => exact ⟨0, _, _, Nat.zero_le _, rfl, HS0⟩
      case round =>
        obtain ⟨j, v1, L, hj, rfl, HFI⟩ := hrel
        have hlj2 : (VV.take j).length = j := by rw [List.length_take, HLV.out]; omega
        obtain ⟨p0, c0, hv, hrv⟩ := HFI.out.rv
        rw [hlj2] at hv
        subst hv
        have y0 := block_cell (j := 0) (block_later HY2.out HFI.out.below) (v := .slice p n c) rfl
        have z0 := block_cell (j := 0) HFI.out.blk (v := .slice p0 j c0) rfl
        have z1 := block_cell (j := 1) HFI.out.blk (v := .int .i64 (s : Nat)) rfl
        by_cases hlt2 : j < n
        · have hlt2' : (j : Int) < n := by omega
          have hjm : j ≤ 1000000 := by omega
          have HTM := Lib.hid (take_more (V := VV) (j := j) (by rw [HLV.out]; exact hlt2))
          have hsi := HSI.out j hlt2
          by_cases hji : i = j
          · subst hji
            rw [if_pos rfl] at hsi
            have hBW : Below wr.heap.size wr (wr.alloc (.cells #[.slice pv s cv] 31)) := (Below.refl _ _).alloc (Nat.le_refl _) _
            have hbkq := SlG.later HBK.out HFI.out.below
            obtain ⟨f1, f2, f3, f4, f5⟩ := fill_one (e := (pv, cv)) (W2 := wr.alloc (.cells #[.slice pv s cv] 31)) HFI.out hlj2 hBW (alloc_block _ _) hbkq (fun a ha => ⟨HN0.out _ (by have := (HUB.out a ha).1; have := HB.out.size; omega), (HUB.out a ha).2.keep (Chg.of_below (S := fun _ => False) HFI.out.below) (fun h => h)⟩)
            have F1 := Lib.hid f1
            have F2 := Lib.hid f2
            have F3 := Lib.hid f3
            have F5 := Lib.hid f5
            clear f1 f2 f3 f5 hBW hbkq hrv
            go_wp2_with (at_builtin; refine wpList_append_sl rfl s _ _ rfl (Wb.heap.size + 1) (.slice p0 i c0) i L rfl F1.out hjm (pv, cv) wr.heap.size rfl F2.out F3.out ?_; intro v2 w2 ho2 hg2; obtain ⟨yy, g0, HN⟩ := F5.out v2 w2 ho2 hg2; obtain ⟨p1, c1, rfl, _⟩ := SlG.of_own (d := d0) (es_len s) (by decide) ho2)
            rw [← hsi, ← HTM.out] at HN
            have HN1 := Lib.hid HN
            clear HN ho2 hg2 yy g0
            go_wp2_with fail
            go_roundw
            case rel => exact ⟨i + 1, _, _, by omega, by go_num, HN1⟩
            case measure => simp [intOf]; omega
          · rw [if_neg hji] at hsi
            have hji' : ¬ (j : Int) = (i : Int) := by omega
            have hjib : ((j : Int) == (i : Int)) = false := by rw [beq_eq_false_iff_ne]; exact hji'
            obtain ⟨vb, vo, qk, ck, hpe, hck, hbkq, huk⟩ := (HV2.out.later HFI.out.below).one (i := j) (by rw [HNN.out]; exact hlt2)
            subst hpe
            have hBW : Below wr.heap.size wr (wr.alloc (.cells #[.slice qk s ck] 31)).drew := ((Below.refl _ _).alloc (Nat.le_refl _) _).drew
            obtain ⟨f1, f2, f3, f4, f5⟩ := fill_one (e := (qk, ck)) (W2 := (wr.alloc (.cells #[.slice qk s ck] 31)).drew) HFI.out hlj2 hBW (alloc_block wr _) hbkq huk
            replace f4 : (wr.alloc (.cells #[.slice qk s ck] 31)).cell? ⟨Wb.heap.size, 0, none⟩ = some (.slice p0 j c0) := f4
            have F1 := Lib.hid f1
            have F2 := Lib.hid f2
            have F3 := Lib.hid f3
            have F5 := Lib.hid f5
            clear f1 f2 f3 f5 hBW hbkq huk hrv
            go_wp2_with fail
            go_region_law (first
              | (refine step_append_sl rfl s (.tmp 85) (.tmp 91) rfl (Wb.heap.size + 1) (.slice p0 j c0) j L (by simp [Act.eval]) F1.out hjm (qk, ck) wr.heap.size (by simp [Act.eval]) F2.out F3.out ?_; intro v2 w2 ho2 hg2; obtain ⟨yy, g0, HN⟩ := F5.out v2 w2 ho2 hg2; obtain ⟨p1, c1, rfl, _⟩ := SlG.of_own (d := d0) (es_len s) (by decide) ho2))
            all_goals
              rw [← hsi, ← HTM.out] at HN
              have HN1 := Lib.hid HN
              clear HN ho2 hg2 yy g0
              go_wp2_with fail
              go_roundw
              case rel => exact ⟨j + 1, _, _, by omega, by go_num, HN1⟩
              case measure => simp [intOf]; omega
        · obtain rfl : n = j := by omega
          have htk : VV.take n = VV := List.take_of_length_le (by rw [HLV.out]; exact Nat.le_refl _)
          rw [htk] at hrv
          have HRV := Lib.hid hrv
          have hA : wr.heap[w.heap.size + 1]? = some (.cells #[.slice none 0 0, .int .i64 0] 30 (0, 0)) := block_later HX2.out HFI.out.below
          have x0 := block_cell (j := 0) hA (v := .slice none 0 0) rfl
          have x1 := block_cell (j := 1) hA (v := .int .i64 0) rfl
          have g0 := block_free 0 hA
          have g1 := block_free 1 hA
          have HXX : Hid (((wr.setCell ⟨w.heap.size + 1, 0, none⟩ (.slice p0 n c0)).setCell ⟨w.heap.size + 1, 1, none⟩ (.int .i64 (s : Nat))).heap[w.heap.size + 1]? = some (.cells #[.slice p0 n c0, .int .i64 (s : Nat)] 30 (0, 0))) := Lib.hid (block_put 1 _ (block_put 0 _ hA))
          have HC : Hid (Chg (fun k => k = w.heap.size + 1) wr ((wr.setCell ⟨w.heap.size + 1, 0, none⟩ (.slice p0 n c0)).setCell ⟨w.heap.size + 1, 1, none⟩ (.int .i64 (s : Nat)))) := Lib.hid (((Chg.refl (fun k => k = w.heap.size + 1) wr).setCell ⟨w.heap.size + 1, 0, none⟩ _ fun _ => rfl).setCell ⟨w.heap.size + 1, 1, none⟩ _ fun _ => rfl)
          have HTY : Hid (∀ k, U8 wr k → ¬ k = w.heap.size + 1) := Lib.hid fun k ⟨cs, hk⟩ e => by
            rw [e, hA] at hk
            cases hk
          have HTS : Hid (∀ k, US wr k → ¬ k = w.heap.size + 1) := Lib.hid fun k ⟨cs, hk⟩ e => by
            rw [e, hA] at hk
            cases hk
          have HBQ := Lib.hid (HBR.out.trans (HFI.out.below.mono HBR.out.size))
          clear hA hrv htk
          go_wp2_with fail
          refine bodyPost_ret (v := .tuple #[.agg #[.slice p0 n c0, .int .i64 (s : Nat)], .int .i64 0]) ?_ rfl ?_
          · exact results_vol rfl _ _ (w.heap.size + 1) _ _ _ rfl rfl HXX.out rfl rfl
          · refine ⟨p0, c0, rfl, ?_, ?_⟩
            · rw [HVV.out]
              exact HRV.out.keep_typed HC.out (fun k _ h => HTS.out k h) (fun k _ h => HTY.out k h)
            · exact HC.out.below HBQ.out HBQ.out.size fun k hk => by omega
end Go.Proofs.Ytdkpjaobfohdfaa
