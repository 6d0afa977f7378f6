/- The document's own sum. -/
import Derived.Test.YtppmokkbepihhaaDoorCrcMore
namespace Go.Proofs.YtppmokkbepihhaaDoor
open Go.RowKit Go.ChangeShapes
set_option linter.unusedVariables false

theorem its_succ (k : Nat) : ∀ x, its (k + 1) x = stp (its k x) := by
  induction k with
  | zero => intro x; rfl
  | succ k ih => intro x; exact ih (stp x)

theorem rsum_any (p : Option Addr) (n cap : Nat) (f : Nat → Nat) (w : World) (hB : Bytes w p n f) (hbig : n ≤ 1000000) :
    Calls Tryd.prog 23 #[.slice p n cap] w fun e w' => e = .returned (.int .u32 ((sumF f n : Nat) : Int)) ∧ w = w' := by
  have HB := Lib.hid hB
  clear hB
  go_enter Tryd.func23, Tryd.ntmps23
  go_wp2_with fail
  go_loop [3, 4] (fun r i => ∃ k : Nat, k ≤ n ∧ r = .int .u32 ((runF 4294967295 f k : Nat) : Int) ∧ i = .int .i64 k) (fun _ i => n - (intOf i).toNat)
  case atStart => exact ⟨0, Nat.zero_le _, rfl, rfl⟩
  case round =>
    obtain ⟨k, hk, rfl, rfl⟩ := hrel
    by_cases hlt : k < n
    · obtain ⟨b, off, rfl, hbl, hc⟩ := HB.out.2 (by omega)
      have hck := hc k hlt
      have hfk := HB.out.1 k hlt
      have hrk : runF 4294967295 f k < 4294967296 := runF_lt _ f (by omega) k fun j hj => HB.out.1 j (by omega)
      have hx := u32_xor_nat (runF 4294967295 f k) (f k) hrk (by omega)
      have hlt2 : runF 4294967295 f k ^^^ f k < 4294967296 := Nat.xor_lt_two_pow (n := 32) hrk (by omega)
      have he : Hid (its 8 (runF 4294967295 f k ^^^ f k) = runF 4294967295 f (k + 1)) := Lib.hid rfl
      clear hc
      generalize hy : runF 4294967295 f (k + 1) = y at he
      have HY := Lib.hid hy
      clear hy
      generalize runF 4294967295 f k = x at *
      generalize f k = z at *
      generalize x ^^^ z = v at *
      go_wp2_with fail
      go_loop [3, 5] (fun r i => ∃ m : Nat, m ≤ 8 ∧ r = .int .u32 ((its m v : Nat) : Int) ∧ i = .int .i64 m) (fun _ i => 8 - (intOf i).toNat)
      case atStart => exact ⟨0, Nat.zero_le _, rfl, rfl⟩
      case round =>
        obtain ⟨m, hm, rfl, rfl⟩ := hrel
        by_cases hlm : m < 8
        · have hu : its m v < 4294967296 := its_lt m v hlt2
          have hst := its_succ m v
          generalize hv : its (m + 1) v = t at *
          have HV := Lib.hid hv
          have HST := Lib.hid hst
          clear hv hst
          generalize its m v = u at *
          by_cases ho : u % 2 = 1
          · have hp : bits .xor .u32 ((u : Int) / 2) 3988292384 = (t : Int) := by
              have := u32_xor_nat (u / 2) 3988292384 (by omega) (by omega)
              rw [HST.out]; unfold stp; rw [if_pos ho]; simpa using this
            go_wp2_with fail
            go_round
            case rel => exact ⟨m + 1, by omega, by rw [HV.out], by go_num⟩
            case measure => simp [intOf]; omega
          · have hp : (u : Int) / 2 = (t : Int) := by
              rw [HST.out]; unfold stp; rw [if_neg ho]; simp
            go_wp2_with fail
            go_round
            case rel => exact ⟨m + 1, by omega, by rw [HV.out], by go_num⟩
            case measure => simp [intOf]; omega
        · obtain rfl : m = 8 := by omega
          rw [he.out]
          go_wp2_with fail
          go_round
          case rel => exact ⟨k + 1, by omega, by rw [HY.out], by go_num⟩
          case measure => simp [intOf]; omega
    · obtain rfl : k = n := by omega
      have hrk : runF 4294967295 f k < 4294967296 := runF_lt _ f (by omega) k HB.out.1
      generalize hx : runF 4294967295 f k = x at *
      have HX := Lib.hid hx
      clear hx
      go_wp2_with fail
      go_ret
      exact ⟨by unfold sumF; rw [HX.out, show ((4294967295 - x : Nat) : Int) = 4294967295 - (x : Int) by omega]; rfl, rfl⟩
end Go.Proofs.YtppmokkbepihhaaDoor
