/- The document's own writers: Fits, Num, Int, Bool, Bytes; told. -/
import Derived.Test.YthckdcejijfgmaaWireTrip
import Derived.LoopTactic
namespace Go.Proofs.Ythckdcejijfgmaa
open Go.RowKit Go.ChangeShapes Go.WideShapes
set_option linter.unusedVariables false

theorem fits_any (x n : Nat) (w : World) (hx : x < 18446744073709551616) (hn : n ≤ 8) :
    Calls Try.prog 30 #[.int .u64 (x : Int), .int .i64 n] w fun e w' => e = .returned (.bool (decide (x < 256 ^ n))) ∧ w = w' := by
  go_enter Try.func30, Try.ntmps30
  go_wp2_with fail
  go_loop [0, 5] (fun y i => ∃ j : Nat, j ≤ n ∧ i = .int .i64 j ∧ y = .int .u64 ((x / 256 ^ j : Nat) : Int)) (fun _ i => n - (intOf i).toNat)
  case atStart => exact ⟨0, Nat.zero_le _, rfl, by simp⟩
  case round =>
    obtain ⟨j, hj, rfl, rfl⟩ := hrel
    have hlt2 : x / 256 ^ j < 18446744073709551616 := Nat.lt_of_le_of_lt (Nat.div_le_self _ _) hx
    by_cases hlt : j < n
    · have HN : Hid (x / 256 ^ (j + 1) = x / 256 ^ j / 256) := Lib.hid (by rw [Nat.pow_succ, Nat.div_div_eq_div_mul])
      generalize hy : x / 256 ^ (j + 1) = z at *
      have HY := Lib.hid hy
      clear hy
      generalize x / 256 ^ j = y at *
      go_wp2_with fail
      go_round
      case rel => exact ⟨j + 1, by omega, by go_num, by rw [HY.out, HN.out]; congr 1⟩
      case measure => simp [intOf]; omega
    · obtain rfl : j = n := by omega
      have HD : Hid ((((x / 256 ^ j : Nat) : Int) == 0) = decide (x < 256 ^ j)) := Lib.hid (by
        rw [Bool.eq_iff_iff]
        simp only [beq_iff_eq, decide_eq_true_iff]
        rw [← Nat.div_eq_zero_iff_lt (Nat.pow_pos (by omega))]
        omega)
      generalize x / 256 ^ j = y at *
      go_wp2_with fail
      go_ret
      refine ⟨?_, rfl⟩
      rw [← HD.out]
      rfl
theorem rnum_any (x n : Nat) (w : World) (hx : x < 18446744073709551616) (hn : n ≤ 8) :
    Calls Try.prog 31 #[.int .u64 (x : Int), .int .i64 n] w (Copied w n (le x n)) := by
  have HO := Lib.hid (own_none w)
  have HB : Hid (Below w.heap.size w (w.alloc (.cells #[] 5))) := Lib.hid ((Below.refl _ _).alloc (Nat.le_refl _) _)
  go_enter Try.func31, Try.ntmps31
  go_wp2_with fail
  go_loopw [0, 5, 6] (fun y v i wr => ∃ (j : Nat) (p : Option Addr) (c : Nat), j ≤ n ∧ i = .int .i64 j ∧ y = .int .u64 ((x / 256 ^ j : Nat) : Int) ∧ v = .slice p j c ∧ Row wr (.slice p j c) j (le x j) ∧ Below w.heap.size w wr ∧ ∀ k, (Value.slice p j c).ownBlock = some k → w.heap.size ≤ k) (fun _ _ i _ => n - (intOf i).toNat)
  case atStart => exact ⟨0, _, _, Nat.zero_le _, rfl, by simp, rfl, HO.out, HB.out, fun k hk => by simp [Value.ownBlock] at hk; omega⟩
  case round =>
    obtain ⟨j, p, c, hj, rfl, rfl, rfl, hr, hb, ho⟩ := hrel
    have HR := Lib.hid hr
    have HBB := Lib.hid hb
    have HOO := Lib.hid ho
    clear hr hb ho
    have hlt2 : x / 256 ^ j < 18446744073709551616 := Nat.lt_of_le_of_lt (Nat.div_le_self _ _) hx
    by_cases hlt : j < n
    · have HN : Hid (x / 256 ^ (j + 1) = x / 256 ^ j / 256) := Lib.hid (by rw [Nat.pow_succ, Nat.div_div_eq_div_mul])
      have HS := Lib.hid (le_snoc j x)
      generalize hy : x / 256 ^ (j + 1) = z at *
      have HY := Lib.hid hy
      clear hy
      generalize x / 256 ^ j = y at *
      have HRA : Hid (Row (wr.alloc (.cells #[.int .u8 ((y : Int) % 256)] 5)) (.slice p j c) j (le x j)) := Lib.hid (HR.out.chg ((Chg.refl (fun _ => False) _).alloc _) fun _ _ h => h)
      have HSA : Hid (Sl (wr.alloc (.cells #[.int .u8 ((y : Int) % 256)] 5)) (some ⟨wr.heap.size, 0, none⟩) 1 1 [y % 256]) := Lib.hid (by have := sl_one (y % 256) (by omega) wr; rw [show (((y % 256 : Nat) : Int)) = (y : Int) % 256 by omega] at this; exact this)
      go_wp2_with (at_builtin; refine wpList_append_row rfl _ _ rfl _ _ (le x j) rfl HRA.out _ _ _ [y % 256] rfl HSA.out (by omega) ?_)
      intro v' w' hr hc hk
      rw [← HS.out] at hr
      obtain ⟨p', c', rfl, _⟩ := hr.sl
      have HF : Hid (Row w' (.slice p' (j + 1) c') (j + 1) (le x (j + 1)) ∧ Below w.heap.size w w' ∧ ∀ k, (Value.slice p' (j + 1) c').ownBlock = some k → w.heap.size ≤ k) := Lib.hid ⟨hr, hc.below (HBB.out.alloc HBB.out.size _) (Nat.le_trans HBB.out.size (by simp)) HOO.out, fun k hk' => by
        rcases hk k hk' with h | h
        · exact HOO.out k h
        · have := HBB.out.size; omega⟩
      clear hr hc hk
      go_wp2_with fail
      go_roundw
      case rel => exact ⟨j + 1, p', c', by omega, by go_num, by rw [HY.out, HN.out]; congr 1, rfl, HF.out.1, HF.out.2.1, HF.out.2.2⟩
      case measure => simp [intOf]; omega
    · obtain rfl : j = n := by omega
      go_wp2_with fail
      go_ret
      exact ⟨_, rfl, HR.out, HBB.out, HOO.out⟩
theorem rint_any (x : Nat) (w : World) (hx : x < 18446744073709551616) :
    Calls Try.prog 32 #[.int .i64 (sgn x)] w (Copied w 8 (le x 8)) := by
  have HN := Lib.hid (rnum_any x 8 w hx (Nat.le_refl _))
  have HS := Lib.hid (wrap_sgn x hx)
  go_enter Try.func32, Try.ntmps32
  go_wp2_with fail
  rw [HS.out]
  refine HN.out.mono ?_
  rintro e w1 ⟨v, rfl, h1, h2, h3⟩
  have HF : Hid (∃ v', v' = v ∧ Row w1 v' 8 (le x 8) ∧ Below w.heap.size w w1 ∧ ∀ k, v'.ownBlock = some k → w.heap.size ≤ k) := Lib.hid ⟨v, rfl, h1, h2, h3⟩
  clear h1 h2 h3
  go_wp2_with fail
  go_ret
  obtain ⟨v', rfl, h1, h2, h3⟩ := HF.out
  exact ⟨_, rfl, h1, h2, h3⟩
theorem rbool_any (b : Bool) (w : World) :
    Calls Try.prog 33 #[.bool b] w fun e w' => ∃ q d, e = .returned (.slice q 1 d) ∧ Sl w' q 1 d [bit b] ∧ Below w.heap.size w w' := by
  cases b with
  | true =>
    have HS := Lib.hid (sl_one 1 (by omega) w)
    have HB : Hid (Below w.heap.size w (w.alloc (.cells #[.int .u8 1] 5))) := Lib.hid ((Below.refl _ _).alloc (Nat.le_refl _) _)
    go_enter Try.func33, Try.ntmps33
    go_wp2_with fail
    go_ret
    exact ⟨_, _, rfl, HS.out, HB.out⟩
  | false =>
    have HS := Lib.hid (sl_one 0 (by omega) w)
    have HB : Hid (Below w.heap.size w (w.alloc (.cells #[.int .u8 0] 5))) := Lib.hid ((Below.refl _ _).alloc (Nat.le_refl _) _)
    go_enter Try.func33, Try.ntmps33
    go_wp2_with fail
    go_ret
    exact ⟨_, _, rfl, HS.out, HB.out⟩
theorem rbytes_any (p : Option Addr) (m c : Nat) (L : List Nat) (w : World) (hs : Sl w p m c L) (hm : m ≤ 65535) :
    Calls Try.prog 34 #[.slice p m c] w (Copied w (2 + m) (le m 2 ++ L)) := by
  have HN := Lib.hid (rnum_any m 2 w (by omega) (by omega))
  have HS := Lib.hid hs
  clear hs
  go_enter Try.func34, Try.ntmps34
  go_wp2_with fail
  refine HN.out.mono ?_
  rintro e w1 ⟨v, rfl, h1, h2, h3⟩
  have HR := Lib.hid h1
  have HB := Lib.hid h2
  have HO := Lib.hid h3
  have HS1 := Lib.hid (HS.out.later h2)
  obtain ⟨pv, cv, rfl, _⟩ := h1.sl
  clear h1 h2 h3
  go_wp2_with (at_builtin; refine wpList_append_row rfl _ _ rfl _ _ (le m 2) rfl HR.out _ _ _ L rfl HS1.out (by omega) ?_)
  intro v' w' hr hc hk
  obtain ⟨p', c', rfl, _⟩ := hr.sl
  have HF : Hid (Row w' (.slice p' (2 + m) c') (2 + m) (le m 2 ++ L) ∧ Below w.heap.size w w' ∧ ∀ k, (Value.slice p' (2 + m) c').ownBlock = some k → w.heap.size ≤ k) := Lib.hid ⟨hr, hc.below HB.out HB.out.size HO.out, fun k hk' => by
    rcases hk k hk' with h | h
    · exact HO.out k h
    · exact Nat.le_trans HB.out.size h⟩
  clear hr hc hk
  go_wp2_with fail
  go_ret
  exact ⟨_, rfl, HF.out⟩
/-- What told answers. -/
def Told (w : World) (A : List Nat × Int) (e : Ending) (w' : World) : Prop := ∃ q m d, e = .returned (.tuple #[.slice q m d, .int .i64 A.2]) ∧ Sl w' q m d A.1 ∧ Below w.heap.size w w'
theorem told_any (it : Item) (w : World) (hs : Sl w it.p it.m it.c it.L) (hk : it.k < 256) (hx : it.x < 18446744073709551616) (hm : it.m ≤ 300) :
    Calls Try.prog 12 #[.agg #[.int .u8 ((it.k : Nat) : Int), .int .u64 ((it.x : Nat) : Int), .int .i64 it.n, .slice it.p it.m it.c]] w (Told w (told it)) := by
  obtain ⟨k, x, n, p, m, c, L⟩ := it
  have hb : Below w.heap.size w (w.alloc (.cells #[.int .u8 ((k : Nat) : Int), .int .u64 ((x : Nat) : Int), .int .i64 n, .slice p m c] 31)) := (Below.refl _ _).alloc (Nat.le_refl _) _
  have HS : Hid (Sl (w.alloc (.cells #[.int .u8 ((k : Nat) : Int), .int .u64 ((x : Nat) : Int), .int .i64 n, .slice p m c] 31)) p m c L) := Lib.hid (hs.later hb)
  have hlm : L.length = m := hs.len
  have HLM := Lib.hid hlm
  have HB := Lib.hid hb
  replace hm : m ≤ 300 := hm
  replace hx : x < 18446744073709551616 := hx
  replace hk : k < 256 := hk
  clear hb hs hlm
  show Calls Try.prog 12 #[.agg #[.int .u8 ((k : Nat) : Int), .int .u64 ((x : Nat) : Int), .int .i64 n, .slice p m c]] w (Told w (told ⟨k, x, n, p, m, c, L⟩))
  obtain ⟨r, hr, hr5⟩ : ∃ r : Nat, k % 5 = r ∧ r < 5 := ⟨_, rfl, by omega⟩
  have hri : (k : Int) % 5 = (r : Int) := by omega
  unfold told
  show Calls _ _ _ _ (Told w (if k % 5 = 0 then (if 1 ≤ n ∧ n ≤ 8 ∧ x < 256 ^ n.toNat then (le x n.toNat, 0) else ([], 1)) else if k % 5 = 1 then (le x 8, 0) else if k % 5 = 2 then ([bit (x % 2 == 1)], 0) else if k % 5 = 3 then (le L.length 2 ++ L, 0) else (L, 0)))
  rw [hr]
  clear hr
  match r, hr5 with
  | 0, _ =>
    show Calls _ _ _ _ (Told w (if 1 ≤ n ∧ n ≤ 8 ∧ x < 256 ^ n.toNat then (le x n.toNat, 0) else ([], 1)))
    by_cases h1 : n < 1
    · rw [if_neg fun h => by omega]
      go_enter Try.func12, Try.ntmps12
      go_wp2_with fail
      go_ret2
      exact ⟨_, _, _, rfl, Sl.none, HB.out⟩
    · by_cases h8 : 8 < n
      · rw [if_neg fun h => by omega]
        go_enter Try.func12, Try.ntmps12
        go_wp2_with fail
        go_ret2
        exact ⟨_, _, _, rfl, Sl.none, HB.out⟩
      · obtain ⟨s, rfl⟩ : ∃ s : Nat, n = (s : Int) := ⟨n.toNat, by omega⟩
        rw [Int.toNat_natCast]
        have HF := Lib.hid (fits_any x s (w.alloc (.cells #[.int .u8 ((k : Nat) : Int), .int .u64 ((x : Nat) : Int), .int .i64 (s : Int), .slice p m c] 31)) hx (by omega))
        by_cases hf : x < 256 ^ s
        · rw [if_pos ⟨by omega, by omega, hf⟩]
          rw [decide_eq_true hf] at HF
          have HN := Lib.hid (rnum_any x s (w.alloc (.cells #[.int .u8 ((k : Nat) : Int), .int .u64 ((x : Nat) : Int), .int .i64 (s : Int), .slice p m c] 31)) hx (by omega))
          clear hf
          go_enter Try.func12, Try.ntmps12
          go_wp2_with fail
          refine HF.out.mono ?_
          rintro e w' ⟨rfl, rfl⟩
          go_wp2_with fail
          refine HN.out.mono ?_
          rintro e w1 ⟨v, rfl, h1, h2, h3⟩
          obtain ⟨pv, cv, rfl, _, hs, _⟩ := h1.sl
          have HG := Lib.hid hs
          have HBB := Lib.hid (HB.out.trans (h2.mono HB.out.size))
          clear h1 h2 h3 hs
          go_wp2_with fail
          go_ret2
          exact ⟨_, _, _, rfl, HG.out, HBB.out⟩
        · rw [if_neg fun h => hf h.2.2]
          rw [decide_eq_false hf] at HF
          clear hf
          go_enter Try.func12, Try.ntmps12
          go_wp2_with fail
          refine HF.out.mono ?_
          rintro e w' ⟨rfl, rfl⟩
          go_wp2_with fail
          go_ret2
          exact ⟨_, _, _, rfl, Sl.none, HB.out⟩
  | 1, _ =>
    show Calls _ _ _ _ (Told w (le x 8, 0))
    have HG := Lib.hid (sgn_wrap x hx)
    have HN := Lib.hid (rint_any x (w.alloc (.cells #[.int .u8 ((k : Nat) : Int), .int .u64 ((x : Nat) : Int), .int .i64 n, .slice p m c] 31)) hx)
    go_enter Try.func12, Try.ntmps12
    go_wp2_with fail
    rw [HG.out]
    refine HN.out.mono ?_
    rintro e w1 ⟨v, rfl, h1, h2, h3⟩
    obtain ⟨pv, cv, rfl, _, hs, _⟩ := h1.sl
    have HH := Lib.hid hs
    have HBB := Lib.hid (HB.out.trans (h2.mono HB.out.size))
    clear h1 h2 h3 hs
    go_wp2_with fail
    go_ret2
    exact ⟨_, _, _, rfl, HH.out, HBB.out⟩
  | 2, _ =>
    show Calls _ _ _ _ (Told w ([bit (x % 2 == 1)], 0))
    have HG := Lib.hid (x_odd x)
    go_enter Try.func12, Try.ntmps12
    go_wp2_with fail
    rw [HG.out]
    refine (rbool_any _ _).mono ?_
    rintro e w1 ⟨q, d, rfl, h1, h2⟩
    have HH := Lib.hid h1
    have HBB := Lib.hid (HB.out.trans (h2.mono HB.out.size))
    clear h1 h2
    go_wp2_with fail
    go_ret2
    exact ⟨_, _, _, rfl, HH.out, HBB.out⟩
  | 3, _ =>
    show Calls _ _ _ _ (Told w (le L.length 2 ++ L, 0))
    rw [HLM.out]
    go_enter Try.func12, Try.ntmps12
    go_wp2_with fail
    refine (rbytes_any _ _ _ L _ HS.out (by omega)).mono ?_
    rintro e w1 ⟨v, rfl, h1, h2, h3⟩
    obtain ⟨pv, cv, rfl, _, hs, _⟩ := h1.sl
    have HH := Lib.hid hs
    have HBB := Lib.hid (HB.out.trans (h2.mono HB.out.size))
    clear h1 h2 h3 hs
    go_wp2_with fail
    go_ret2
    exact ⟨_, _, _, rfl, HH.out, HBB.out⟩
  | 4, _ =>
    show Calls _ _ _ _ (Told w (L, 0))
    go_enter Try.func12, Try.ntmps12
    go_wp2_with fail
    go_ret2
    exact ⟨_, _, _, rfl, HS.out, HB.out⟩
end Go.Proofs.Ythckdcejijfgmaa
