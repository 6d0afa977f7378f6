/- What is added to a key, by its sign: the document's way. -/
import Derived.Test.YtmjhfohpllndhaaOpRow
import Derived.Test.YtmjhfohpllndhaaKeyEq
namespace Go.Proofs.Ytmjhfohpllndhaa
open Go.RowKit Go.ChangeShapes Go.WideShapes
set_option linter.unusedVariables false

/-- Is it of this sign? (0: any.) -/
def selB (s d : Int) : Bool := if s = 0 then true else if s < 0 then decide (d < 0) else decide (0 < d)
/-- What is added to a key, by its sign. -/
def dsS (L : List O) (k : K) (s : Int) : List Int := (dsL L k).filter (selB s)
theorem dsS_all (L : List O) (k : K) : dsS L k 0 = dsL L k := by
  unfold dsS
  rw [List.filter_eq_self]
  intro x _
  rfl
theorem dsS_in {L : List O} (h : ∀ o ∈ L, Ook o) (k : K) (s : Int) : ∀ x ∈ dsS L k s, In64 x := fun x hx => dsL_in h k x (List.mem_filter.1 hx).1
theorem dsS_len (L : List O) (k : K) (s : Int) : (dsS L k s).length ≤ L.length := Nat.le_trans (List.length_filter_le _ _) (dsL_len L k)
theorem take_sel (L : List O) (k : K) (s : Int) (j : Nat) (h : j < L.length) : dsS (L.take (j + 1)) k s = if decide ((L.getD j o0).1 = k) && selB s (L.getD j o0).2 then dsS (L.take j) k s ++ [(L.getD j o0).2] else dsS (L.take j) k s := by
  unfold dsS
  rw [take_ds L k j h]
  generalize L.getD j o0 = y
  by_cases hk : y.1 = k
  · rw [if_pos hk, List.filter_append, decide_eq_true hk]
    cases hs : selB s y.2 <;> simp [hs]
  · rw [if_neg hk, decide_eq_false hk]
    simp

set_option maxHeartbeats 2000000 in
set_option maxRecDepth 100000 in
theorem deltas_all (p : Option Addr) (n c : Nat) (L : List O) (k : K) (W : World) (hL : OL W p n c L) (hn : n ≤ 100000) (sgn : Int) (hsg : sgn = 0) :
    Calls Try.prog 15 #[.slice p n c, .agg #[.int .u8 k.1, .int .u8 k.2.1, .int .u8 k.2.2], .int .i64 0] W (GivesI W (dsS L k sgn)) := by
  have HLN := Lib.hid hL.len
  have HS := Lib.hid fun j (hj : j < n) => take_sel L k sgn j (by rw [hL.len]; exact hj)
  have hcap := hL.cap
  have HW1 := Lib.hid ((Below.refl W.heap.size W).alloc (Nat.le_refl _) (.cells #[.int .u8 k.1, .int .u8 k.2.1, .int .u8 k.2.2] 29))
  have HL := Lib.hid (hL.later ((Below.refl _ _).alloc (Nat.le_refl _) (.cells #[.int .u8 k.1, .int .u8 k.2.1, .int .u8 k.2.2] 29)))
  have HX : Hid ((W.alloc (.cells #[.int .u8 k.1, .int .u8 k.2.1, .int .u8 k.2.2] 29)).heap[W.heap.size]? = some (.cells #[.int .u8 k.1, .int .u8 k.2.1, .int .u8 k.2.2] 29 (0, 0))) := Lib.hid (alloc_block _ _)
  have HSG := Lib.hid hsg
  clear hL hsg
  go_enter Try.func15, Try.ntmps15
  go_wp2_with fail
  generalize W.alloc (.cells #[.int .u8 k.1, .int .u8 k.2.1, .int .u8 k.2.2] 29) = W1 at *
  go_loopw [7, 8] (fun v i wr => ∃ j : Nat, j ≤ n ∧ i = .int .i64 (j : Nat) ∧ Hid (FillI W1 wr v (dsS (L.take j) k sgn) j)) (fun _ i _ => n - (intOf i).toNat)
  case atStart => exact ⟨0, Nat.zero_le _, rfl, Lib.hid (FillG.nil W1)⟩
  case round =>
    obtain ⟨j, hj, rfl, HF⟩ := hrel
    by_cases hlt : j < n
    · have hlt' : (j : Int) < n := by omega
      obtain ⟨b, off, rfl, _, c0, c1, c2, c3⟩ := op_cells (HL.out.later HF.out.below) hlt
      have hst := HS.out j hlt
      have hxk := block_later HX.out HF.out.below
      have y0 := block_cell (j := 0) hxk rfl
      have y1 := block_cell (j := 1) hxk rfl
      have y2 := block_cell (j := 2) hxk rfl
      generalize L.getD j o0 = x at *
      have hq := fun w => key_eql x.1.1 x.1.2.1 x.1.2.2 k.1 k.2.1 k.2.2 w
      have e1 : decide (((x.1.1, x.1.2.1, x.1.2.2) : K) = (k.1, k.2.1, k.2.2)) = decide (x.1 = k) := rfl
      rw [e1] at hq
      clear e1 hxk
      by_cases hk : x.1 = k
      · rw [decide_eq_true hk] at hq hst
        clear hk
        have hsel : (true && selB sgn x.2) = true := by rw [HSG.out]; rfl
        rw [hsel] at hst
        have HST := Lib.hid hst
        clear hst hsel
        go_wp2_with fail
        go_quiet (fail)
        generalize hW3 : wr.drewN nq = W3 at *
        have HF3 : Hid (FillI W1 W3 _ (dsS (L.take j) k sgn) j) := Lib.hid (by rw [← hW3]; exact HF.out.later (below_drewN (Below.refl _ _) nq))
        have hmost := HF3.out.most
        have hsz := HF3.out.below.size
        clear hW3
        go_wp2_with (at_builtin; refine wpList_append_i rfl _ _ rfl W1.heap.size _ (dsS (L.take j) k sgn).length (dsS (L.take j) k sgn) rfl (HF3.out.own.alloc _) (by omega) x.2 W3.heap.size rfl (int_news W3 x.2) (by simp; omega) ?_; intro v2 w2 h1 h2)
        have HF4 := Lib.hid (HF3.out.step _ h1 h2)
        clear h1 h2 hmost hsz
        go_wp2_with fail
        go_roundw
        case rel => exact ⟨j + 1, by omega, by go_num, Lib.hid (by rw [HST.out]; exact HF4.out)⟩
        case measure => simp [intOf]; omega
      · rw [decide_eq_false hk] at hq hst
        clear hk
        have hsel : (false && selB sgn x.2) = false := rfl
        rw [hsel] at hst
        have HST := Lib.hid hst
        clear hst hsel
        go_wp2_with fail
        go_quiet (fail)
        go_wp2_with fail
        go_roundw
        case rel => exact ⟨j + 1, by omega, by go_num, Lib.hid (by rw [HST.out]; exact (HF.out.later (below_drewN (Below.refl _ _) _)).mono (by omega))⟩
        case measure => simp [intOf]; omega
    · obtain rfl : j = n := by omega
      have HE : Hid (dsS (L.take j) k sgn = dsS L k sgn) := Lib.hid (by rw [List.take_of_length_le (by rw [HLN.out]; exact Nat.le_refl _)])
      go_wp2_with fail
      go_ret
      have hg := HF.out.gives (d := 0) ic_len (by decide)
      rw [HE.out] at hg
      obtain ⟨p2, c2, he, hs2, hb2, hp2⟩ := hg
      exact ⟨p2, c2, he, hs2, HW1.out.trans (hb2.mono HW1.out.size), fun a ha => Nat.le_trans HW1.out.size (hp2 a ha)⟩

set_option maxHeartbeats 2000000 in
set_option maxRecDepth 100000 in
theorem deltas_low (p : Option Addr) (n c : Nat) (L : List O) (k : K) (W : World) (hL : OL W p n c L) (hn : n ≤ 100000) (sgn : Int) (hsg : sgn = (-1)) :
    Calls Try.prog 15 #[.slice p n c, .agg #[.int .u8 k.1, .int .u8 k.2.1, .int .u8 k.2.2], .int .i64 (-1)] W (GivesI W (dsS L k sgn)) := by
  have HLN := Lib.hid hL.len
  have HS := Lib.hid fun j (hj : j < n) => take_sel L k sgn j (by rw [hL.len]; exact hj)
  have hcap := hL.cap
  have HW1 := Lib.hid ((Below.refl W.heap.size W).alloc (Nat.le_refl _) (.cells #[.int .u8 k.1, .int .u8 k.2.1, .int .u8 k.2.2] 29))
  have HL := Lib.hid (hL.later ((Below.refl _ _).alloc (Nat.le_refl _) (.cells #[.int .u8 k.1, .int .u8 k.2.1, .int .u8 k.2.2] 29)))
  have HX : Hid ((W.alloc (.cells #[.int .u8 k.1, .int .u8 k.2.1, .int .u8 k.2.2] 29)).heap[W.heap.size]? = some (.cells #[.int .u8 k.1, .int .u8 k.2.1, .int .u8 k.2.2] 29 (0, 0))) := Lib.hid (alloc_block _ _)
  have HSG := Lib.hid hsg
  clear hL hsg
  go_enter Try.func15, Try.ntmps15
  go_wp2_with fail
  generalize W.alloc (.cells #[.int .u8 k.1, .int .u8 k.2.1, .int .u8 k.2.2] 29) = W1 at *
  go_loopw [7, 8] (fun v i wr => ∃ j : Nat, j ≤ n ∧ i = .int .i64 (j : Nat) ∧ Hid (FillI W1 wr v (dsS (L.take j) k sgn) j)) (fun _ i _ => n - (intOf i).toNat)
  case atStart => exact ⟨0, Nat.zero_le _, rfl, Lib.hid (FillG.nil W1)⟩
  case round =>
    obtain ⟨j, hj, rfl, HF⟩ := hrel
    by_cases hlt : j < n
    · have hlt' : (j : Int) < n := by omega
      obtain ⟨b, off, rfl, _, c0, c1, c2, c3⟩ := op_cells (HL.out.later HF.out.below) hlt
      have hst := HS.out j hlt
      have hxk := block_later HX.out HF.out.below
      have y0 := block_cell (j := 0) hxk rfl
      have y1 := block_cell (j := 1) hxk rfl
      have y2 := block_cell (j := 2) hxk rfl
      generalize L.getD j o0 = x at *
      have hq := fun w => key_eql x.1.1 x.1.2.1 x.1.2.2 k.1 k.2.1 k.2.2 w
      have e1 : decide (((x.1.1, x.1.2.1, x.1.2.2) : K) = (k.1, k.2.1, k.2.2)) = decide (x.1 = k) := rfl
      rw [e1] at hq
      clear e1 hxk
      by_cases hk : x.1 = k
      · rw [decide_eq_true hk] at hq hst
        clear hk
        by_cases hd : x.2 < 0
        · have hsel : (true && selB sgn x.2) = true := by rw [HSG.out]; simp [selB, hd]
          have hd1 : decide (x.2 < 0) = true := decide_eq_true hd
          clear hd
          rw [hsel] at hst
          have HST := Lib.hid hst
          clear hst hsel
          go_wp2_with fail
          go_quiet (fail)
          generalize hW3 : wr.drewN nq = W3 at *
          have HF3 : Hid (FillI W1 W3 _ (dsS (L.take j) k sgn) j) := Lib.hid (by rw [← hW3]; exact HF.out.later (below_drewN (Below.refl _ _) nq))
          have hmost := HF3.out.most
          have hsz := HF3.out.below.size
          clear hW3
          go_wp2_with (at_builtin; refine wpList_append_i rfl _ _ rfl W1.heap.size _ (dsS (L.take j) k sgn).length (dsS (L.take j) k sgn) rfl (HF3.out.own.alloc _) (by omega) x.2 W3.heap.size rfl (int_news W3 x.2) (by simp; omega) ?_; intro v2 w2 h1 h2)
          have HF4 := Lib.hid (HF3.out.step _ h1 h2)
          clear h1 h2 hmost hsz
          go_wp2_with fail
          go_roundw
          case rel => exact ⟨j + 1, by omega, by go_num, Lib.hid (by rw [HST.out]; exact HF4.out)⟩
          case measure => simp [intOf]; omega
        · have hsel : (true && selB sgn x.2) = false := by rw [HSG.out]; simp [selB]; omega
          have hd1 : decide (x.2 < 0) = false := decide_eq_false hd
          clear hd
          rw [hsel] at hst
          have HST := Lib.hid hst
          clear hst hsel
          go_wp2_with fail
          go_quiet (fail)
          go_wp2_with fail
          go_roundw
          case rel => exact ⟨j + 1, by omega, by go_num, Lib.hid (by rw [HST.out]; exact (HF.out.later (below_drewN (Below.refl _ _) _)).mono (by omega))⟩
          case measure => simp [intOf]; omega
      · rw [decide_eq_false hk] at hq hst
        clear hk
        have hsel : (false && selB sgn x.2) = false := rfl
        rw [hsel] at hst
        have HST := Lib.hid hst
        clear hst hsel
        go_wp2_with fail
        go_quiet (fail)
        go_wp2_with fail
        go_roundw
        case rel => exact ⟨j + 1, by omega, by go_num, Lib.hid (by rw [HST.out]; exact (HF.out.later (below_drewN (Below.refl _ _) _)).mono (by omega))⟩
        case measure => simp [intOf]; omega
    · obtain rfl : j = n := by omega
      have HE : Hid (dsS (L.take j) k sgn = dsS L k sgn) := Lib.hid (by rw [List.take_of_length_le (by rw [HLN.out]; exact Nat.le_refl _)])
      go_wp2_with fail
      go_ret
      have hg := HF.out.gives (d := 0) ic_len (by decide)
      rw [HE.out] at hg
      obtain ⟨p2, c2, he, hs2, hb2, hp2⟩ := hg
      exact ⟨p2, c2, he, hs2, HW1.out.trans (hb2.mono HW1.out.size), fun a ha => Nat.le_trans HW1.out.size (hp2 a ha)⟩

set_option maxHeartbeats 2000000 in
set_option maxRecDepth 100000 in
theorem deltas_high (p : Option Addr) (n c : Nat) (L : List O) (k : K) (W : World) (hL : OL W p n c L) (hn : n ≤ 100000) (sgn : Int) (hsg : sgn = 1) :
    Calls Try.prog 15 #[.slice p n c, .agg #[.int .u8 k.1, .int .u8 k.2.1, .int .u8 k.2.2], .int .i64 1] W (GivesI W (dsS L k sgn)) := by
  have HLN := Lib.hid hL.len
  have HS := Lib.hid fun j (hj : j < n) => take_sel L k sgn j (by rw [hL.len]; exact hj)
  have hcap := hL.cap
  have HW1 := Lib.hid ((Below.refl W.heap.size W).alloc (Nat.le_refl _) (.cells #[.int .u8 k.1, .int .u8 k.2.1, .int .u8 k.2.2] 29))
  have HL := Lib.hid (hL.later ((Below.refl _ _).alloc (Nat.le_refl _) (.cells #[.int .u8 k.1, .int .u8 k.2.1, .int .u8 k.2.2] 29)))
  have HX : Hid ((W.alloc (.cells #[.int .u8 k.1, .int .u8 k.2.1, .int .u8 k.2.2] 29)).heap[W.heap.size]? = some (.cells #[.int .u8 k.1, .int .u8 k.2.1, .int .u8 k.2.2] 29 (0, 0))) := Lib.hid (alloc_block _ _)
  have HSG := Lib.hid hsg
  clear hL hsg
  go_enter Try.func15, Try.ntmps15
  go_wp2_with fail
  generalize W.alloc (.cells #[.int .u8 k.1, .int .u8 k.2.1, .int .u8 k.2.2] 29) = W1 at *
  go_loopw [7, 8] (fun v i wr => ∃ j : Nat, j ≤ n ∧ i = .int .i64 (j : Nat) ∧ Hid (FillI W1 wr v (dsS (L.take j) k sgn) j)) (fun _ i _ => n - (intOf i).toNat)
  case atStart => exact ⟨0, Nat.zero_le _, rfl, Lib.hid (FillG.nil W1)⟩
  case round =>
    obtain ⟨j, hj, rfl, HF⟩ := hrel
    by_cases hlt : j < n
    · have hlt' : (j : Int) < n := by omega
      obtain ⟨b, off, rfl, _, c0, c1, c2, c3⟩ := op_cells (HL.out.later HF.out.below) hlt
      have hst := HS.out j hlt
      have hxk := block_later HX.out HF.out.below
      have y0 := block_cell (j := 0) hxk rfl
      have y1 := block_cell (j := 1) hxk rfl
      have y2 := block_cell (j := 2) hxk rfl
      generalize L.getD j o0 = x at *
      have hq := fun w => key_eql x.1.1 x.1.2.1 x.1.2.2 k.1 k.2.1 k.2.2 w
      have e1 : decide (((x.1.1, x.1.2.1, x.1.2.2) : K) = (k.1, k.2.1, k.2.2)) = decide (x.1 = k) := rfl
      rw [e1] at hq
      clear e1 hxk
      by_cases hk : x.1 = k
      · rw [decide_eq_true hk] at hq hst
        clear hk
        by_cases hd : 0 < x.2
        · have hsel : (true && selB sgn x.2) = true := by rw [HSG.out]; simp [selB, hd]
          have hd1 : decide (0 < x.2) = true := decide_eq_true hd
          clear hd
          rw [hsel] at hst
          have HST := Lib.hid hst
          clear hst hsel
          go_wp2_with fail
          go_quiet (fail)
          generalize hW3 : wr.drewN nq = W3 at *
          have HF3 : Hid (FillI W1 W3 _ (dsS (L.take j) k sgn) j) := Lib.hid (by rw [← hW3]; exact HF.out.later (below_drewN (Below.refl _ _) nq))
          have hmost := HF3.out.most
          have hsz := HF3.out.below.size
          clear hW3
          go_wp2_with (at_builtin; refine wpList_append_i rfl _ _ rfl W1.heap.size _ (dsS (L.take j) k sgn).length (dsS (L.take j) k sgn) rfl (HF3.out.own.alloc _) (by omega) x.2 W3.heap.size rfl (int_news W3 x.2) (by simp; omega) ?_; intro v2 w2 h1 h2)
          have HF4 := Lib.hid (HF3.out.step _ h1 h2)
          clear h1 h2 hmost hsz
          go_wp2_with fail
          go_roundw
          case rel => exact ⟨j + 1, by omega, by go_num, Lib.hid (by rw [HST.out]; exact HF4.out)⟩
          case measure => simp [intOf]; omega
        · have hsel : (true && selB sgn x.2) = false := by rw [HSG.out]; simp [selB]; omega
          have hd1 : decide (0 < x.2) = false := decide_eq_false hd
          clear hd
          rw [hsel] at hst
          have HST := Lib.hid hst
          clear hst hsel
          go_wp2_with fail
          go_quiet (fail)
          go_wp2_with fail
          go_roundw
          case rel => exact ⟨j + 1, by omega, by go_num, Lib.hid (by rw [HST.out]; exact (HF.out.later (below_drewN (Below.refl _ _) _)).mono (by omega))⟩
          case measure => simp [intOf]; omega
      · rw [decide_eq_false hk] at hq hst
        clear hk
        have hsel : (false && selB sgn x.2) = false := rfl
        rw [hsel] at hst
        have HST := Lib.hid hst
        clear hst hsel
        go_wp2_with fail
        go_quiet (fail)
        go_wp2_with fail
        go_roundw
        case rel => exact ⟨j + 1, by omega, by go_num, Lib.hid (by rw [HST.out]; exact (HF.out.later (below_drewN (Below.refl _ _) _)).mono (by omega))⟩
        case measure => simp [intOf]; omega
    · obtain rfl : j = n := by omega
      have HE : Hid (dsS (L.take j) k sgn = dsS L k sgn) := Lib.hid (by rw [List.take_of_length_le (by rw [HLN.out]; exact Nat.le_refl _)])
      go_wp2_with fail
      go_ret
      have hg := HF.out.gives (d := 0) ic_len (by decide)
      rw [HE.out] at hg
      obtain ⟨p2, c2, he, hs2, hb2, hp2⟩ := hg
      exact ⟨p2, c2, he, hs2, HW1.out.trans (hb2.mono HW1.out.size), fun a ha => Nat.le_trans HW1.out.size (hp2 a ha)⟩
end Go.Proofs.Ytmjhfohpllndhaa
