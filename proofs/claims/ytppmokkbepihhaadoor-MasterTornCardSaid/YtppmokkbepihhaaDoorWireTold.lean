/- The document's own writers: Fits, Num, Int, Bool, Bytes; told. -/
import Derived.Test.YtppmokkbepihhaaDoorWireTrip
import Derived.LoopTactic
namespace Go.Proofs.YtppmokkbepihhaaDoor
open Go.RowKit Go.ChangeShapes Go.WideShapes
set_option linter.unusedVariables false
set_option maxRecDepth 10000

theorem rnum_any (x n : Nat) (w : World) (hx : x < 18446744073709551616) (hn : n ≤ 8) :
    Calls Tryd.prog 21 #[.int .u64 (x : Int), .int .i64 n] w (Copied w n (le x n)) := by
  have HO := Lib.hid (own_none w)
  have HB : Hid (Below w.heap.size w (w.alloc (.cells #[] 5))) := Lib.hid ((Below.refl _ _).alloc (Nat.le_refl _) _)
  go_enter Tryd.func21, Tryd.ntmps21
  go_wp2_with fail
  go_loopw [0, 5, 6] (fun y v i wr => ∃ (j : Nat) (p : Option Addr) (c : Nat), j ≤ n ∧ i = .int .i64 j ∧ y = .int .u64 ((x / 256 ^ j : Nat) : Int) ∧ v = .slice p j c ∧ Row wr (.slice p j c) j (le x j) ∧ Below w.heap.size w wr ∧ ∀ k, (Value.slice p j c).ownBlock = some k → w.heap.size ≤ k) (fun _ _ i _ => n - (intOf i).toNat)
  case atStart => exact ⟨0, _, _, Nat.zero_le _, rfl, by simp, rfl, HO.out, HB.out, fun k hk => by simp [Value.ownBlock] at hk; omega⟩
  case round =>
    obtain ⟨j, p, c, hj, rfl, rfl, rfl, hr, hb, ho⟩ := hrel
    have HR := Lib.hid hr
    have HBB := Lib.hid hb
    have HOO := Lib.hid ho
    clear hr hb ho
    have hlt2 : x / 256 ^ j < 18446744073709551616 := Nat.lt_of_le_of_lt (Nat.div_le_self _ _) hx
    by_cases hlt : j < n
    · have HN : Hid (x / 256 ^ (j + 1) = x / 256 ^ j / 256) := Lib.hid (by rw [Nat.pow_succ, Nat.div_div_eq_div_mul])
      have HS := Lib.hid (le_snoc j x)
      generalize hy : x / 256 ^ (j + 1) = z at *
      have HY := Lib.hid hy
      clear hy
      generalize x / 256 ^ j = y at *
      have HRA : Hid (Row (wr.alloc (.cells #[.int .u8 ((y : Int) % 256)] 5)) (.slice p j c) j (le x j)) := Lib.hid (HR.out.chg ((Chg.refl (fun _ => False) _).alloc _) fun _ _ h => h)
      have HSA : Hid (Sl (wr.alloc (.cells #[.int .u8 ((y : Int) % 256)] 5)) (some ⟨wr.heap.size, 0, none⟩) 1 1 [y % 256]) := Lib.hid (by have := sl_one (y % 256) (by omega) wr; rw [show (((y % 256 : Nat) : Int)) = (y : Int) % 256 by omega] at this; exact this)
      go_wp2_with (at_builtin; refine wpList_append_row rfl _ _ rfl _ _ (le x j) rfl HRA.out _ _ _ [y % 256] rfl HSA.out (by omega) ?_)
      intro v' w' hr hc hk
      rw [← HS.out] at hr
      obtain ⟨p', c', rfl, _⟩ := hr.sl
      have HF : Hid (Row w' (.slice p' (j + 1) c') (j + 1) (le x (j + 1)) ∧ Below w.heap.size w w' ∧ ∀ k, (Value.slice p' (j + 1) c').ownBlock = some k → w.heap.size ≤ k) := Lib.hid ⟨hr, hc.below (HBB.out.alloc HBB.out.size _) (Nat.le_trans HBB.out.size (by simp)) HOO.out, fun k hk' => by
        rcases hk k hk' with h | h
        · exact HOO.out k h
        · have := HBB.out.size; omega⟩
      clear hr hc hk
      go_wp2_with fail
      go_roundw
      case rel => exact ⟨j + 1, p', c', by omega, by go_num, by rw [HY.out, HN.out]; congr 1, rfl, HF.out.1, HF.out.2.1, HF.out.2.2⟩
      case measure => simp [intOf]; omega
    · obtain rfl : j = n := by omega
      go_wp2_with fail
      go_ret
      exact ⟨_, rfl, HR.out, HBB.out, HOO.out⟩
theorem rint_any (x : Nat) (w : World) (hx : x < 18446744073709551616) :
    Calls Tryd.prog 22 #[.int .i64 (sgn x)] w (Copied w 8 (le x 8)) := by
  have HN := Lib.hid (rnum_any x 8 w hx (Nat.le_refl _))
  have HS := Lib.hid (wrap_sgn x hx)
  go_enter Tryd.func22, Tryd.ntmps22
  go_wp2_with fail
  rw [HS.out]
  refine HN.out.mono ?_
  rintro e w1 ⟨v, rfl, h1, h2, h3⟩
  have HF : Hid (∃ v', v' = v ∧ Row w1 v' 8 (le x 8) ∧ Below w.heap.size w w1 ∧ ∀ k, v'.ownBlock = some k → w.heap.size ≤ k) := Lib.hid ⟨v, rfl, h1, h2, h3⟩
  clear h1 h2 h3
  go_wp2_with fail
  go_ret
  obtain ⟨v', rfl, h1, h2, h3⟩ := HF.out
  exact ⟨_, rfl, h1, h2, h3⟩
/-- What told answers. -/
def Told (w : World) (A : List Nat × Int) (e : Ending) (w' : World) : Prop := ∃ q m d, e = .returned (.tuple #[.slice q m d, .int .i64 A.2]) ∧ Sl w' q m d A.1 ∧ Below w.heap.size w w'
end Go.Proofs.YtppmokkbepihhaaDoor
