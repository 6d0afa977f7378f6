/- crc.More, crc.Sum, crc.Same: what they answer of any bytes. -/
import Derived.Test.YtppmokkbepihhaaDoorCrcHalf
import Derived.LoopTactic
namespace Go.Proofs.YtppmokkbepihhaaDoor
open Go.RowKit Go.ChangeShapes
set_option linter.unusedVariables false

/-- From p on n bytes lie there, f. -/
def Bytes (w : World) (p : Option Addr) (n : Nat) (f : Nat → Nat) : Prop :=
  (∀ j, j < n → f j < 256) ∧ (0 < n → ∃ b off, p = some ⟨b, off, none⟩ ∧ b < w.heap.size ∧ ∀ j, j < n → w.cell? ⟨b, off + j, none⟩ = some (.int .u8 ((f j : Nat) : Int)))
theorem Bytes.later {w w' : World} {p : Option Addr} {n : Nat} {f : Nat → Nat} (h : Bytes w p n f) (hb : Below w.heap.size w w') : Bytes w' p n f := by
  refine ⟨h.1, fun h0 => ?_⟩
  obtain ⟨b, off, hp, hlt, hc⟩ := h.2 h0
  exact ⟨b, off, hp, Nat.lt_of_lt_of_le hlt hb.size, fun j hj => by rw [hb.cell (p := ⟨b, off + j, none⟩) hlt]; exact hc j hj⟩

theorem more_any (s : Nat) (p : Option Addr) (n cap : Nat) (f : Nat → Nat) (w : World) (hs : s < 4294967296) (hB : Bytes w p n f) (hbig : n ≤ 1000000) (hT : Tab w) :
    Calls Tryd.prog 33 #[.int .u32 (s : Int), .slice p n cap] w fun e w' => e = .returned (.int .u32 ((4294967295 - runF (4294967295 - s) f n : Nat) : Int)) ∧ w = w' := by
  have HT := Lib.hid hT
  have HB := Lib.hid hB
  have hn (x : Nat) (h : x < 4294967296) : bits .xor .u32 IntKind.u32.max (x : Int) = ((4294967295 - x : Nat) : Int) := by
    rw [show IntKind.u32.max = 4294967295 by rfl]
    have := u32_xor_nat 4294967295 x (by omega) h
    rw [← not_nat x h] at this
    exact this
  have h0 := hn s hs
  have HN := Lib.hid hn
  clear hT hB hn
  have hq : (4294967295 - s : Nat) < 4294967296 := by omega
  generalize (4294967295 - s : Nat) = q at *
  go_enter Tryd.func33, Tryd.ntmps33
  go_wp2_with fail
  go_loop [5, 12] (fun r i => ∃ k : Nat, k ≤ n ∧ r = .int .u32 ((runF q f k : Nat) : Int) ∧ i = .int .i64 k) (fun _ i => n - (intOf i).toNat)
  case atStart => exact ⟨0, Nat.zero_le _, rfl, rfl⟩
  case round =>
    obtain ⟨k, hk, rfl, rfl⟩ := hrel
    by_cases hlt : k < n
    · obtain ⟨b, off, rfl, hbl, hc⟩ := HB.out.2 (by omega)
      have hck := hc k hlt
      have hfk := HB.out.1 k hlt
      have hrk : runF q f k < 4294967296 := runF_lt q f hq k fun j hj => HB.out.1 j (by omega)
      have hx := u32_xor_nat (runF q f k) (f k) hrk (by omega)
      have hlt2 : runF q f k ^^^ f k < 4294967296 := Nat.xor_lt_two_pow (n := 32) hrk (by omega)
      have he : Hid (its 4 (its 4 (runF q f k ^^^ f k)) = runF q f (k + 1)) := Lib.hid (its_eight _)
      clear hc
      generalize hy : runF q f (k + 1) = y at he
      have HY := Lib.hid hy
      clear hy
      generalize runF q f k = x at *
      generalize f k = z at *
      generalize x ^^^ z = v at *
      go_wp2_with fail
      refine (half_any _ _ hlt2 HT.out).mono ?_
      rintro e w' ⟨rfl, rfl⟩
      go_wp2_with fail
      refine (half_any _ _ (its_lt _ _ hlt2) HT.out).mono ?_
      rintro e w' ⟨rfl, rfl⟩
      rw [he.out]
      go_wp2_with fail
      go_round
      case rel => exact ⟨k + 1, by omega, by rw [HY.out], by go_num⟩
      case measure => simp [intOf]; omega
    · obtain rfl : k = n := by omega
      have hrk : runF q f k < 4294967296 := runF_lt q f hq k HB.out.1
      generalize hx : runF q f k = x at *
      have HX := Lib.hid hx
      clear hx
      go_wp2_with fail
      rw [HN.out x hrk]
      go_ret
      exact ⟨by rw [HX.out]; rfl, rfl⟩

theorem sum_any (p : Option Addr) (n cap : Nat) (f : Nat → Nat) (w : World) (hB : Bytes w p n f) (hbig : n ≤ 1000000) (hT : Tab w) :
    Calls Tryd.prog 20 #[.slice p n cap] w fun e w' => e = .returned (.int .u32 ((sumF f n : Nat) : Int)) ∧ w = w' := by
  have HT := Lib.hid hT
  have HB := Lib.hid hB
  clear hT hB
  go_enter Tryd.func20, Tryd.ntmps20
  go_wp2_with fail
  refine (more_any 0 _ _ _ f _ (by omega) HB.out hbig HT.out).mono ?_
  rintro e w' ⟨rfl, rfl⟩
  go_wp2_with fail
  go_ret
  exact ⟨rfl, rfl⟩

theorem crcsame_any (p : Option Addr) (n cap : Nat) (f : Nat → Nat) (s : Int) (w : World) (hB : Bytes w p n f) (hbig : n ≤ 1000000) (hT : Tab w) :
    Calls Tryd.prog 26 #[.slice p n cap, .int .u32 s] w fun e w' => e = .returned (.bool (((sumF f n : Nat) : Int) == s)) ∧ w = w' := by
  have HT := Lib.hid hT
  have HB := Lib.hid hB
  clear hT hB
  go_enter Tryd.func26, Tryd.ntmps26
  go_wp2_with fail
  refine (sum_any _ _ _ f _ HB.out hbig HT.out).mono ?_
  rintro e w' ⟨rfl, rfl⟩
  go_wp2_with fail
  go_ret
  exact ⟨rfl, rfl⟩
end Go.Proofs.YtppmokkbepihhaaDoor
