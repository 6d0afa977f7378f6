/- What is added to a key, and what is taken away: the program's way. -/
import Derived.Test.YtmjhfohpllndhaaOpRefDeltas
import Derived.Test.YtmjhfohpllndhaaCalcRows
namespace Go.Proofs.Ytmjhfohpllndhaa
open Go.RowKit Go.ChangeShapes Go.WideShapes
set_option linter.unusedVariables false

theorem nan64_any (x : Int) (W : World) : Calls Try.prog 45 #[.int .i64 x] W fun e w' => e = .returned (.bool false) ∧ w' = W := by
  go_enter Try.func45, Try.ntmps45
  go_wp2_with fail
  go_ret
  exact ⟨by simp, rfl⟩
theorem cmp64_any (x y : Int) (W : World) : Calls Try.prog 40 #[.int .i64 x, .int .i64 y] W fun e w' => e = .returned (.int .i64 (cmp8 x y)) ∧ w' = W := by
  by_cases h1 : x < y
  · have hF : cmp8 x y = -1 := by simp [cmp8, h1]
    rw [hF]
    go_enter Try.func40, Try.ntmps40
    go_wp2_with fail
    refine (nan64_any _ _).mono ?_
    rintro e w' ⟨rfl, rfl⟩
    go_wp2_with fail
    refine (nan64_any _ _).mono ?_
    rintro e w' ⟨rfl, rfl⟩
    go_wp2_with fail
    go_ret
    exact ⟨rfl, rfl⟩
  · by_cases h2 : y < x
    · have hF : cmp8 x y = 1 := by simp [cmp8, h1, h2]
      rw [hF]
      go_enter Try.func40, Try.ntmps40
      go_wp2_with fail
      refine (nan64_any _ _).mono ?_
      rintro e w' ⟨rfl, rfl⟩
      go_wp2_with fail
      refine (nan64_any _ _).mono ?_
      rintro e w' ⟨rfl, rfl⟩
      go_wp2_with fail
      go_ret
      exact ⟨rfl, rfl⟩
    · have hF : cmp8 x y = 0 := by simp [cmp8, h1, h2]
      rw [hF]
      go_enter Try.func40, Try.ntmps40
      go_wp2_with fail
      refine (nan64_any _ _).mono ?_
      rintro e w' ⟨rfl, rfl⟩
      go_wp2_with fail
      refine (nan64_any _ _).mono ?_
      rintro e w' ⟨rfl, rfl⟩
      go_wp2_with fail
      go_ret
      exact ⟨rfl, rfl⟩

set_option maxHeartbeats 2000000 in
set_option maxRecDepth 100000 in
theorem part_low (p : Option Addr) (n c : Nat) (L : List O) (k : K) (W : World) (hL : OL W p n c L) (hok : ∀ o ∈ L, Ook o) (hn : n ≤ 100000) (sgn : Int) (hsg : sgn = (-1)) :
    Calls Try.prog 27 #[.slice p n c, .agg #[.int .u8 k.1, .int .u8 k.2.1, .int .u8 k.2.2], .int .i64 (-1)] W fun e w' => e = .returned (.tuple #[.int .i64 (val (total (dsS L k sgn))), .bool (okB (total (dsS L k sgn)))]) ∧ Below W.heap.size W w' := by
  have HLN := Lib.hid hL.len
  have HIN := Lib.hid (dsS_in hok k sgn)
  have HLE := Lib.hid (Nat.le_trans (dsS_len L k sgn) (by rw [hL.len]; exact hn))
  have HS := Lib.hid fun j (hj : j < n) => take_sel L k sgn j (by rw [hL.len]; exact hj)
  have hcap := hL.cap
  have HW1 := Lib.hid ((Below.refl W.heap.size W).alloc (Nat.le_refl _) (.cells #[.int .u8 k.1, .int .u8 k.2.1, .int .u8 k.2.2] 29))
  have HL := Lib.hid (hL.later ((Below.refl _ _).alloc (Nat.le_refl _) (.cells #[.int .u8 k.1, .int .u8 k.2.1, .int .u8 k.2.2] 29)))
  have HX : Hid ((W.alloc (.cells #[.int .u8 k.1, .int .u8 k.2.1, .int .u8 k.2.2] 29)).heap[W.heap.size]? = some (.cells #[.int .u8 k.1, .int .u8 k.2.1, .int .u8 k.2.2] 29 (0, 0))) := Lib.hid (alloc_block _ _)
  have HSG := Lib.hid hsg
  clear hL hsg hok
  go_enter Try.func27, Try.ntmps27
  go_wp2_with fail
  generalize W.alloc (.cells #[.int .u8 k.1, .int .u8 k.2.1, .int .u8 k.2.2] 29) = W1 at *
  go_loopw [8, 13] (fun v i wr => ∃ j : Nat, j ≤ n ∧ i = .int .i64 (j : Nat) ∧ Hid (FillI W1 wr v (dsS (L.take j) k sgn) j)) (fun _ i _ => n - (intOf i).toNat)
  case atStart => exact ⟨0, Nat.zero_le _, rfl, Lib.hid (FillG.nil W1)⟩
  case round =>
    obtain ⟨j, hj, rfl, HF⟩ := hrel
    by_cases hlt : j < n
    · have hlt' : (j : Int) < n := by omega
      obtain ⟨b, off, rfl, _, c0, c1, c2, c3⟩ := op_cells (HL.out.later HF.out.below) hlt
      have hst := HS.out j hlt
      generalize L.getD j o0 = x at *
      obtain ⟨W3, hW3⟩ : ∃ W3, wr.alloc (.cells #[.int .u8 x.1.1, .int .u8 x.1.2.1, .int .u8 x.1.2.2, .int .i64 x.2] 37) = W3 := ⟨_, rfl⟩
      have hb3 : Below wr.heap.size wr W3 := by rw [← hW3]; exact (Below.refl _ _).alloc (Nat.le_refl _) _
      have hxk := block_later HX.out (HF.out.below.trans (hb3.mono HF.out.below.size))
      have hxo : W3.heap[wr.heap.size]? = some (.cells #[.int .u8 x.1.1, .int .u8 x.1.2.1, .int .u8 x.1.2.2, .int .i64 x.2] 37 (0, 0)) := by rw [← hW3]; exact alloc_block wr _
      have HF3 := Lib.hid (HF.out.later hb3)
      have y0 := block_cell (j := 0) hxk rfl
      have y1 := block_cell (j := 1) hxk rfl
      have y2 := block_cell (j := 2) hxk rfl
      have z0 := block_cell (j := 0) hxo rfl
      have z1 := block_cell (j := 1) hxo rfl
      have z2 := block_cell (j := 2) hxo rfl
      have z3 := block_cell (j := 3) hxo rfl
      have hcall := fun w => cmp64_any x.2 0 w
      have hq := fun w => key_eql x.1.1 x.1.2.1 x.1.2.2 k.1 k.2.1 k.2.2 w
      have e1 : decide (((x.1.1, x.1.2.1, x.1.2.2) : K) = (k.1, k.2.1, k.2.2)) = decide (x.1 = k) := rfl
      rw [e1] at hq
      clear e1 hxk hxo hb3
      by_cases hk : x.1 = k
      · rw [decide_eq_true hk] at hq hst
        clear hk
        by_cases hd : x.2 < 0
        · have hsel : (true && selB sgn x.2) = true := by rw [HSG.out]; simp [selB, hd]
          have hcm : cmp8 x.2 0 = (-1) := by unfold cmp8; rw [if_pos hd]
          rw [hcm] at hcall
          clear hd hcm
          rw [hsel] at hst
          have HST := Lib.hid hst
          clear hst hsel
          have hmost := HF3.out.most
          have hsz := HF3.out.below.size
          go_wp2_with fail
          refine (hcall _).mono ?_
          rintro e W3 ⟨rfl, rfl⟩
          clear hcall
          go_wp2_with (at_builtin; refine wpList_append_i rfl _ _ rfl W1.heap.size _ (dsS (L.take j) k sgn).length (dsS (L.take j) k sgn) rfl (HF3.out.own.alloc _) (by omega) x.2 W3.heap.size rfl (int_news W3 x.2) (by simp; omega) ?_; intro v2 w2 h1 h2)
          have HF4 := Lib.hid (HF3.out.step _ h1 h2)
          clear h1 h2 hmost hsz
          go_wp2_with fail
          go_roundw
          case rel => exact ⟨j + 1, by omega, by go_num, Lib.hid (by rw [HST.out]; exact HF4.out)⟩
          case measure => simp [intOf]; omega
        · have hsel : (true && selB sgn x.2) = false := by rw [HSG.out]; simp [selB]; omega
          have hcm : (cmp8 x.2 0 == (-1)) = false := by
            rw [beq_eq_false_iff_ne]
            unfold cmp8
            repeat' split
            all_goals omega
          generalize cmp8 x.2 0 = cm at *
          clear hd
          rw [hsel] at hst
          have HST := Lib.hid hst
          clear hst hsel
          go_wp2_with fail
          refine (hcall _).mono ?_
          rintro e W3 ⟨rfl, rfl⟩
          clear hcall
          go_wp2_with fail
          go_roundw
          case rel => exact ⟨j + 1, by omega, by go_num, Lib.hid (by rw [HST.out]; exact HF3.out.mono (by omega))⟩
          case measure => simp [intOf]; omega
      · rw [decide_eq_false hk] at hq hst
        clear hk
        have hsel : (false && selB sgn x.2) = false := rfl
        rw [hsel] at hst
        have HST := Lib.hid hst
        clear hst hsel
        go_wp2_with fail
        skip
        go_roundw
        case rel => exact ⟨j + 1, by omega, by go_num, Lib.hid (by rw [HST.out]; exact HF3.out.mono (by omega))⟩
        case measure => simp [intOf]; omega
    · obtain rfl : j = n := by omega
      have HE : Hid (dsS (L.take j) k sgn = dsS L k sgn) := Lib.hid (by rw [List.take_of_length_le (by rw [HLN.out]; exact Nat.le_refl _)])
      have hg := HF.out
      rw [HE.out] at hg
      obtain ⟨p2, c2, rfl, hs2, _⟩ := SlG.of_own (d := 0) ic_len (by decide) hg.own
      have hsum := sum_of p2 (dsS L k sgn).length c2 (dsS L k sgn) wr (IL.row hs2 HIN.out) (Nat.le_trans HLE.out (by omega))
      have HB := Lib.hid (HW1.out.trans (hg.below.mono HW1.out.size))
      clear hg hs2
      go_wp2_with fail
      refine hsum.mono ?_
      rintro e w' ⟨rfl, rfl⟩
      clear hsum
      go_wp2_with fail
      go_ret2
      exact ⟨rfl, HB.out⟩

set_option maxHeartbeats 2000000 in
set_option maxRecDepth 100000 in
theorem part_high (p : Option Addr) (n c : Nat) (L : List O) (k : K) (W : World) (hL : OL W p n c L) (hok : ∀ o ∈ L, Ook o) (hn : n ≤ 100000) (sgn : Int) (hsg : sgn = 1) :
    Calls Try.prog 27 #[.slice p n c, .agg #[.int .u8 k.1, .int .u8 k.2.1, .int .u8 k.2.2], .int .i64 1] W fun e w' => e = .returned (.tuple #[.int .i64 (val (total (dsS L k sgn))), .bool (okB (total (dsS L k sgn)))]) ∧ Below W.heap.size W w' := by
  have HLN := Lib.hid hL.len
  have HIN := Lib.hid (dsS_in hok k sgn)
  have HLE := Lib.hid (Nat.le_trans (dsS_len L k sgn) (by rw [hL.len]; exact hn))
  have HS := Lib.hid fun j (hj : j < n) => take_sel L k sgn j (by rw [hL.len]; exact hj)
  have hcap := hL.cap
  have HW1 := Lib.hid ((Below.refl W.heap.size W).alloc (Nat.le_refl _) (.cells #[.int .u8 k.1, .int .u8 k.2.1, .int .u8 k.2.2] 29))
  have HL := Lib.hid (hL.later ((Below.refl _ _).alloc (Nat.le_refl _) (.cells #[.int .u8 k.1, .int .u8 k.2.1, .int .u8 k.2.2] 29)))
  have HX : Hid ((W.alloc (.cells #[.int .u8 k.1, .int .u8 k.2.1, .int .u8 k.2.2] 29)).heap[W.heap.size]? = some (.cells #[.int .u8 k.1, .int .u8 k.2.1, .int .u8 k.2.2] 29 (0, 0))) := Lib.hid (alloc_block _ _)
  have HSG := Lib.hid hsg
  clear hL hsg hok
  go_enter Try.func27, Try.ntmps27
  go_wp2_with fail
  generalize W.alloc (.cells #[.int .u8 k.1, .int .u8 k.2.1, .int .u8 k.2.2] 29) = W1 at *
  go_loopw [8, 13] (fun v i wr => ∃ j : Nat, j ≤ n ∧ i = .int .i64 (j : Nat) ∧ Hid (FillI W1 wr v (dsS (L.take j) k sgn) j)) (fun _ i _ => n - (intOf i).toNat)
  case atStart => exact ⟨0, Nat.zero_le _, rfl, Lib.hid (FillG.nil W1)⟩
  case round =>
    obtain ⟨j, hj, rfl, HF⟩ := hrel
    by_cases hlt : j < n
    · have hlt' : (j : Int) < n := by omega
      obtain ⟨b, off, rfl, _, c0, c1, c2, c3⟩ := op_cells (HL.out.later HF.out.below) hlt
      have hst := HS.out j hlt
      generalize L.getD j o0 = x at *
      obtain ⟨W3, hW3⟩ : ∃ W3, wr.alloc (.cells #[.int .u8 x.1.1, .int .u8 x.1.2.1, .int .u8 x.1.2.2, .int .i64 x.2] 37) = W3 := ⟨_, rfl⟩
      have hb3 : Below wr.heap.size wr W3 := by rw [← hW3]; exact (Below.refl _ _).alloc (Nat.le_refl _) _
      have hxk := block_later HX.out (HF.out.below.trans (hb3.mono HF.out.below.size))
      have hxo : W3.heap[wr.heap.size]? = some (.cells #[.int .u8 x.1.1, .int .u8 x.1.2.1, .int .u8 x.1.2.2, .int .i64 x.2] 37 (0, 0)) := by rw [← hW3]; exact alloc_block wr _
      have HF3 := Lib.hid (HF.out.later hb3)
      have y0 := block_cell (j := 0) hxk rfl
      have y1 := block_cell (j := 1) hxk rfl
      have y2 := block_cell (j := 2) hxk rfl
      have z0 := block_cell (j := 0) hxo rfl
      have z1 := block_cell (j := 1) hxo rfl
      have z2 := block_cell (j := 2) hxo rfl
      have z3 := block_cell (j := 3) hxo rfl
      have hcall := fun w => cmp64_any x.2 0 w
      have hq := fun w => key_eql x.1.1 x.1.2.1 x.1.2.2 k.1 k.2.1 k.2.2 w
      have e1 : decide (((x.1.1, x.1.2.1, x.1.2.2) : K) = (k.1, k.2.1, k.2.2)) = decide (x.1 = k) := rfl
      rw [e1] at hq
      clear e1 hxk hxo hb3
      by_cases hk : x.1 = k
      · rw [decide_eq_true hk] at hq hst
        clear hk
        by_cases hd : 0 < x.2
        · have hsel : (true && selB sgn x.2) = true := by rw [HSG.out]; simp [selB, hd]
          have hcm : cmp8 x.2 0 = 1 := by unfold cmp8; rw [if_neg (by omega), if_pos hd]
          rw [hcm] at hcall
          clear hd hcm
          rw [hsel] at hst
          have HST := Lib.hid hst
          clear hst hsel
          have hmost := HF3.out.most
          have hsz := HF3.out.below.size
          go_wp2_with fail
          refine (hcall _).mono ?_
          rintro e W3 ⟨rfl, rfl⟩
          clear hcall
          go_wp2_with (at_builtin; refine wpList_append_i rfl _ _ rfl W1.heap.size _ (dsS (L.take j) k sgn).length (dsS (L.take j) k sgn) rfl (HF3.out.own.alloc _) (by omega) x.2 W3.heap.size rfl (int_news W3 x.2) (by simp; omega) ?_; intro v2 w2 h1 h2)
          have HF4 := Lib.hid (HF3.out.step _ h1 h2)
          clear h1 h2 hmost hsz
          go_wp2_with fail
          go_roundw
          case rel => exact ⟨j + 1, by omega, by go_num, Lib.hid (by rw [HST.out]; exact HF4.out)⟩
          case measure => simp [intOf]; omega
        · have hsel : (true && selB sgn x.2) = false := by rw [HSG.out]; simp [selB]; omega
          have hcm : (cmp8 x.2 0 == 1) = false := by
            rw [beq_eq_false_iff_ne]
            unfold cmp8
            repeat' split
            all_goals omega
          generalize cmp8 x.2 0 = cm at *
          clear hd
          rw [hsel] at hst
          have HST := Lib.hid hst
          clear hst hsel
          go_wp2_with fail
          refine (hcall _).mono ?_
          rintro e W3 ⟨rfl, rfl⟩
          clear hcall
          go_wp2_with fail
          go_roundw
          case rel => exact ⟨j + 1, by omega, by go_num, Lib.hid (by rw [HST.out]; exact HF3.out.mono (by omega))⟩
          case measure => simp [intOf]; omega
      · rw [decide_eq_false hk] at hq hst
        clear hk
        have hsel : (false && selB sgn x.2) = false := rfl
        rw [hsel] at hst
        have HST := Lib.hid hst
        clear hst hsel
        go_wp2_with fail
        skip
        go_roundw
        case rel => exact ⟨j + 1, by omega, by go_num, Lib.hid (by rw [HST.out]; exact HF3.out.mono (by omega))⟩
        case measure => simp [intOf]; omega
    · obtain rfl : j = n := by omega
      have HE : Hid (dsS (L.take j) k sgn = dsS L k sgn) := Lib.hid (by rw [List.take_of_length_le (by rw [HLN.out]; exact Nat.le_refl _)])
      have hg := HF.out
      rw [HE.out] at hg
      obtain ⟨p2, c2, rfl, hs2, _⟩ := SlG.of_own (d := 0) ic_len (by decide) hg.own
      have hsum := sum_of p2 (dsS L k sgn).length c2 (dsS L k sgn) wr (IL.row hs2 HIN.out) (Nat.le_trans HLE.out (by omega))
      have HB := Lib.hid (HW1.out.trans (hg.below.mono HW1.out.size))
      clear hg hs2
      go_wp2_with fail
      refine hsum.mono ?_
      rintro e w' ⟨rfl, rfl⟩
      clear hsum
      go_wp2_with fail
      go_ret2
      exact ⟨rfl, HB.out⟩

theorem low_o (p : Option Addr) (n c : Nat) (L : List O) (k : K) (W : World) (hL : OL W p n c L) (hok : ∀ o ∈ L, Ook o) (hn : n ≤ 100000) :
    Calls Try.prog 13 #[.slice p n c, .agg #[.int .u8 k.1, .int .u8 k.2.1, .int .u8 k.2.2]] W fun e w' => e = .returned (.tuple #[.int .i64 (val (total (dsS L k (-1)))), .bool (okB (total (dsS L k (-1))))]) ∧ Below W.heap.size W w' := by
  have hc := part_low p n c L k _ (hL.later ((Below.refl W.heap.size W).alloc (Nat.le_refl _) (.cells #[.int .u8 k.1, .int .u8 k.2.1, .int .u8 k.2.2] 29))) hok hn (-1) rfl
  have HW1 := Lib.hid ((Below.refl W.heap.size W).alloc (Nat.le_refl _) (.cells #[.int .u8 k.1, .int .u8 k.2.1, .int .u8 k.2.2] 29))
  generalize total (dsS L k (-1)) = y at *
  clear hL hok
  go_enter Try.func13, Try.ntmps13
  go_wp2_with fail
  generalize W.alloc (.cells #[.int .u8 k.1, .int .u8 k.2.1, .int .u8 k.2.2] 29) = W1 at *
  refine hc.mono ?_
  rintro e w' ⟨rfl, hb⟩
  have HB := Lib.hid (HW1.out.trans (hb.mono HW1.out.size))
  clear hc hb
  go_wp2_with fail
  go_ret2
  exact ⟨rfl, HB.out⟩

theorem high_o (p : Option Addr) (n c : Nat) (L : List O) (k : K) (W : World) (hL : OL W p n c L) (hok : ∀ o ∈ L, Ook o) (hn : n ≤ 100000) :
    Calls Try.prog 16 #[.slice p n c, .agg #[.int .u8 k.1, .int .u8 k.2.1, .int .u8 k.2.2]] W fun e w' => e = .returned (.tuple #[.int .i64 (val (total (dsS L k 1))), .bool (okB (total (dsS L k 1)))]) ∧ Below W.heap.size W w' := by
  have hc := part_high p n c L k _ (hL.later ((Below.refl W.heap.size W).alloc (Nat.le_refl _) (.cells #[.int .u8 k.1, .int .u8 k.2.1, .int .u8 k.2.2] 29))) hok hn 1 rfl
  have HW1 := Lib.hid ((Below.refl W.heap.size W).alloc (Nat.le_refl _) (.cells #[.int .u8 k.1, .int .u8 k.2.1, .int .u8 k.2.2] 29))
  generalize total (dsS L k 1) = y at *
  clear hL hok
  go_enter Try.func16, Try.ntmps16
  go_wp2_with fail
  generalize W.alloc (.cells #[.int .u8 k.1, .int .u8 k.2.1, .int .u8 k.2.2] 29) = W1 at *
  refine hc.mono ?_
  rintro e w' ⟨rfl, hb⟩
  have HB := Lib.hid (HW1.out.trans (hb.mono HW1.out.size))
  clear hc hb
  go_wp2_with fail
  go_ret2
  exact ⟨rfl, HB.out⟩
end Go.Proofs.Ytmjhfohpllndhaa
