/- The writer's numbers, truths and bytes. -/
import Derived.Test.YtppmokkbepihhaaDoorWireWrite
import Derived.Outline
namespace Go.Proofs.YtppmokkbepihhaaDoor
open Go.RowKit Go.ChangeShapes Go.WideShapes
set_option linter.unusedVariables false
set_option maxRecDepth 10000

theorem numW_bad (most : Int) (S : St) (x : Nat) (size : Int) (h : ¬ (1 ≤ size ∧ size ≤ 8 ∧ x < 256 ^ size.toNat)) : numW most S x size = bad 1 S := if_neg h
theorem num_wr_size (B : Nat) (v : Value) (most : Int) (S : St) (x : Nat) (size : Int) (w : World) (h : Wr w B v most S) (hs : fit size = false) :
    Calls Tryd.prog 17 #[.pointer (some ⟨B, 0, none⟩), .int .u64 (x : Int), .int .i64 size] w (Wrot w B v most (bad 1 S)) := by
  have HN := Lib.hid (note_wr B v most S 1 w h)
  clear h
  go_enter Tryd.func17, Tryd.ntmps17
  go_wp2_with fail
  refine (sized_any size _).mono ?_
  rw [hs]
  rintro e w' ⟨rfl, rfl⟩
  go_wp2_with fail
  refine HN.out.mono ?_
  rintro e w' ⟨rfl, hw⟩
  have HW := Lib.hid hw
  clear hw
  go_wp2_with fail
  refine bodyPost_ret (results_none rfl _ _ _) rfl ?_
  exact ⟨rfl, HW.out⟩
theorem shr_big (x n : Nat) (h : ¬ x < 256 ^ n) : ((x : Int) / 2 ^ (8 * n) == 0) = false ∧ ((x : Int) / 2 ^ (8 * n) != 0) = true := by
  have e : (x : Int) / 2 ^ (8 * n) = ((x / 256 ^ n : Nat) : Int) := by rw [pow_256]; simp
  have : 0 < x / 256 ^ n := Nat.div_pos (by omega) (Nat.pow_pos (by omega))
  rw [e]
  generalize x / 256 ^ n = y at this ⊢
  constructor
  · simp; omega
  · simp; omega
theorem shr_small (x n : Nat) (h : x < 256 ^ n) : (x : Int) / 2 ^ (8 * n) = 0 := by
  have e : (x : Int) / 2 ^ (8 * n) = ((x / 256 ^ n : Nat) : Int) := by rw [pow_256]; simp
  rw [e, Nat.div_eq_of_lt h]
  rfl
theorem num_wr_big (B : Nat) (v : Value) (most : Int) (S : St) (x n : Nat) (w : World) (h : Wr w B v most S) (h1 : 1 ≤ n) (h8 : n ≤ 8) (hx : ¬ x < 256 ^ n) :
    Calls Tryd.prog 17 #[.pointer (some ⟨B, 0, none⟩), .int .u64 (x : Int), .int .i64 n] w (Wrot w B v most (bad 1 S)) := by
  have HN := Lib.hid (note_wr B v most S 1 w h)
  have hs : fit (n : Int) = true := by rw [fit, decide_eq_true_iff]; omega
  obtain ⟨hb1, hb2⟩ := shr_big x n hx
  clear h
  go_enter Tryd.func17, Tryd.ntmps17
  go_wp2_with fail
  refine (sized_any _ _).mono ?_
  rw [hs]
  rintro e w' ⟨rfl, rfl⟩
  go_wp2_with fail
  refine HN.out.mono ?_
  rintro e w' ⟨rfl, hw⟩
  have HW := Lib.hid hw
  clear hw
  go_wp2_with fail
  refine bodyPost_ret (results_none rfl _ _ _) rfl ?_
  exact ⟨rfl, HW.out⟩
/-- The bytes of x in an array of 8, of which j are written. -/
def part (x j k : Nat) : Value := .int .u8 ((if k < j then x / 256 ^ k % 256 else 0 : Nat) : Int)
theorem part_start (x : Nat) (w : World) : (w.alloc (.cells #[.int .u8 0, .int .u8 0, .int .u8 0, .int .u8 0, .int .u8 0, .int .u8 0, .int .u8 0, .int .u8 0] 67)).rowIs w.heap.size 67 8 (part x 0) :=
  World.rowIs_alloc w #[.int .u8 0, .int .u8 0, .int .u8 0, .int .u8 0, .int .u8 0, .int .u8 0, .int .u8 0, .int .u8 0] _ (part x 0) fun i hi => by
    replace hi : i < 8 := hi
    match i, hi with
    | 0, _ => rfl
    | 1, _ => rfl
    | 2, _ => rfl
    | 3, _ => rfl
    | 4, _ => rfl
    | 5, _ => rfl
    | 6, _ => rfl
    | 7, _ => rfl
theorem part_next (x j : Nat) (w : World) (A : Nat) (h : w.rowIs A 67 8 (part x j)) (y : Int) (hy : y = ((x / 256 ^ j % 256 : Nat) : Int)) : (w.setCell ⟨A, j, none⟩ (.int .u8 y)).rowIs A 67 8 (part x (j + 1)) := by
  refine (h.set j _).congr fun k hk => ?_
  subst hy
  show (if k = j then _ else part x j k) = part x (j + 1) k
  unfold part
  by_cases e : k = j
  · subst e; rw [if_pos rfl, if_pos (by omega)]
  · rw [if_neg e]
    by_cases hlt : k < j
    · rw [if_pos hlt, if_pos (by omega)]
    · rw [if_neg hlt, if_neg (by omega)]
theorem part_byte (x j : Nat) : (x : Int) / 2 ^ (8 * j) % 256 = ((x / 256 ^ j % 256 : Nat) : Int) := by rw [pow_256]; simp
theorem part_sl (x n : Nat) (w : World) (A : Nat) (hn : n ≤ 8) (h : w.rowIs A 67 8 (part x 8)) : Sl w (some ⟨A, 0, none⟩) n 8 (le x n) := by
  refine ⟨le_len n x, hn, (fun h => by cases h), le_lt n x, fun _ => ⟨A, 0, rfl, fun j hj => ?_⟩⟩
  rw [Nat.zero_add, h.cell (by omega), le_get n x j hj]
  unfold part
  rw [if_pos (by omega)]
theorem num_wr_good (B : Nat) (v : Value) (most : Int) (S : St) (x n : Nat) (w : World) (h : Wr w B v most S) (h0 : 0 ≤ most) (h9 : most ≤ 9223372036854775807) (hl : S.2.length ≤ 900000) (h1 : 1 ≤ n) (h8 : n ≤ 8) (hx : x < 256 ^ n) :
    Calls Tryd.prog 17 #[.pointer (some ⟨B, 0, none⟩), .int .u64 (x : Int), .int .i64 n] w (Wrot w B v most (rawW most S (le x n))) := by
  have H := Lib.hid h
  have hs : fit (n : Int) = true := by rw [fit, decide_eq_true_iff]; omega
  have hb1 := shr_small x n hx
  clear h
  go_enter Tryd.func17, Tryd.ntmps17
  go_wp2_with fail
  refine (sized_any _ _).mono ?_
  rw [hs]
  rintro e w' ⟨rfl, rfl⟩
  go_wp2_with fail
  clear hb1
  have HP := Lib.hid (part_start x w)
  have HB : Hid (Below w.heap.size w (w.alloc (.cells #[.int .u8 0, .int .u8 0, .int .u8 0, .int .u8 0, .int .u8 0, .int .u8 0, .int .u8 0, .int .u8 0] 67))) := Lib.hid ((Below.refl _ _).alloc (Nat.le_refl _) _)
  go_loopw [24] (fun i wr => ∃ j : Nat, j ≤ 8 ∧ i = .int .i64 j ∧ wr.rowIs w.heap.size 67 8 (part x j) ∧ Below w.heap.size w wr) (fun i _ => 8 - (intOf i).toNat)
  case atStart => exact ⟨0, by omega, rfl, HP.out, HB.out⟩
  case round =>
    obtain ⟨j, hj, rfl, hp, hb⟩ := hrel
    clear HP HB
    have HP := Lib.hid hp
    have HB := Lib.hid hb
    by_cases hlt : j < 8
    · have hc := hp.cell hlt
      have hf := hp.frozen j
      clear hp hb
      have hk0 : (0 : Int) ≤ 8 * (j : Int) := by omega
      generalize hA : w.heap.size = A at *
      have HA := Lib.hid hA
      clear hA
      generalize part x j j = y0 at *
      go_wp2_with fail
      go_roundw
      case rel => exact ⟨j + 1, by omega, by go_num, part_next x j _ A HP.out _ (part_byte x j), HB.out.setCell (Nat.le_refl _) _⟩
      case measure => simp [intOf]; omega
    · obtain rfl : j = 8 := by omega
      clear hp hb
      have HS := Lib.hid (part_sl x n _ _ h8 HP.out)
      have HC : Hid (Chg (fun _ => False) w wr) := Lib.hid (Chg.of_below HB.out)
      have HW : Hid (Wr wr B v most S) := Lib.hid (H.out.chg HC.out (fun h => h) fun _ _ h => h)
      have h8' : (n : Int) ≤ 8 := by omega
      go_wp2_with fail
      refine (raw_any B v most S _ HW.out _ _ _ _ HS.out h0 h9 (by omega)).mono ?_
      rintro e w' ⟨rfl, hw⟩
      have HR := Lib.hid hw
      clear hw
      go_wp2_with fail
      go_end0
      exact ⟨rfl, HR.out.before HC.out⟩
end Go.Proofs.YtppmokkbepihhaaDoor
