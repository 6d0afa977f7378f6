/- The sum of 32 bits as a map on numbers: one move of the register, and what is true of any number of moves. -/
/- Half a byte's moves, by the table. -/
/- crc.More, crc.Sum, crc.Same: what they answer of any bytes. -/
/- The document's own sum. -/
/- Frames as lists of bytes: one frame, the first one of some bytes, all of them; cut off; spoilt. -/
/- frame.Size, frame.Put and the document's Put: what they answer. -/
import Derived.KernelRfl
import Derived.Test.YtdcanppiiikjgaaDoorProg
import Derived.WalkKit
import Derived.ProofKit
import Derived.Below
import Derived.Lib.Hide
import Derived.OpenShut
import Derived.Laws.BitsAllLaws
import Derived.LoopTactic
import Derived.Test.YtdcanppiiikjgaaDoorGrWire
import Derived.Test.YtdcanppiiikjgaaDoorGrRecc
import Derived.Test.YtdcanppiiikjgaaDoorGrWireb
namespace Go.Proofs.YtdcanppiiikjgaaDoor
set_option linter.unusedVariables false

/-- One move. -/
def stp (x : Nat) : Nat := x / 2 ^^^ (if x % 2 = 1 then 3988292384 else 0)
/-- n moves. -/
def its : Nat → Nat → Nat
  | 0, x => x
  | n + 1, x => its n (stp x)
/-- The register behind n bytes. -/
def runF (r : Nat) (f : Nat → Nat) : Nat → Nat
  | 0 => r
  | n + 1 => its 8 (runF r f n ^^^ f n)
/-- The sum of n bytes. -/
def sumF (f : Nat → Nat) (n : Nat) : Nat := 4294967295 - runF 4294967295 f n
/-- n bytes as one number. -/
def numF (f : Nat → Nat) : Nat → Nat
  | 0 => 0
  | n + 1 => numF f n ^^^ (f n * 2 ^ (8 * n))

theorem stp_xor (x y : Nat) : stp (x ^^^ y) = stp x ^^^ stp y := by
  unfold stp
  have hm := @Nat.xor_mod_two_eq_one x y
  rw [Nat.xor_div_two]
  rcases Nat.mod_two_eq_zero_or_one x with hx | hx <;> rcases Nat.mod_two_eq_zero_or_one y with hy | hy
  · rw [if_neg (fun h => by have := hm.1 h; simp [hx, hy] at this), if_neg (by omega), if_neg (by omega)]; simp
  · rw [if_pos (hm.2 (by simp [hx, hy])), if_neg (by omega), if_pos (by omega)]; simp [Nat.xor_assoc]
  · rw [if_pos (hm.2 (by simp [hx, hy])), if_pos (by omega), if_neg (by omega)]; simp only [Nat.xor_zero]; ac_rfl
  · rw [if_neg (fun h => by have := hm.1 h; simp [hx, hy] at this), if_pos (by omega), if_pos (by omega)]
    rw [show x / 2 ^^^ 3988292384 ^^^ (y / 2 ^^^ 3988292384) = x / 2 ^^^ y / 2 ^^^ (3988292384 ^^^ 3988292384) by ac_rfl, Nat.xor_self, Nat.xor_zero]
/-- Two numbers that come to nothing are one. -/
theorem of_xor (x y : Nat) (h : x ^^^ y = 0) : x = y := by
  have := congrArg (· ^^^ y) h
  simpa [Nat.xor_assoc] using this
theorem stp_double (y : Nat) : stp (y * 2) = y := by
  unfold stp
  rw [if_neg (by omega), Nat.xor_zero]; omega
theorem its_xor (n : Nat) : ∀ x y, its n (x ^^^ y) = its n x ^^^ its n y := by
  induction n with
  | zero => intro x y; rfl
  | succ n ih => intro x y; unfold its; rw [stp_xor, ih]
theorem its_zero (n : Nat) : its n 0 = 0 := by
  have := its_xor n 0 0
  simp at this; exact this
theorem its_add (m : Nat) : ∀ n x, its (m + n) x = its n (its m x) := by
  induction m with
  | zero => intro n x; rw [Nat.zero_add]; rfl
  | succ m ih => intro n x; rw [show m + 1 + n = (m + n) + 1 by omega]; exact ih n _
theorem its_shift (m : Nat) : ∀ x, its m (x * 2 ^ m) = x := by
  induction m with
  | zero => intro x; simp [its]
  | succ m ih => intro x; rw [show x * 2 ^ (m + 1) = (x * 2 ^ m) * 2 by rw [Nat.pow_succ]; ac_rfl]; unfold its; rw [stp_double]; exact ih x
theorem stp_lt (x : Nat) (h : x < 4294967296) : stp x < 4294967296 := by
  unfold stp
  refine Nat.xor_lt_two_pow (n := 32) (by omega) ?_
  split <;> omega
theorem its_lt (n : Nat) : ∀ x, x < 4294967296 → its n x < 4294967296 := by
  induction n with
  | zero => intro x h; exact h
  | succ n ih => intro x h; exact ih _ (stp_lt x h)
theorem stp_pos (x : Nat) (h : x < 4294967296) (h0 : x ≠ 0) : stp x ≠ 0 := by
  unfold stp
  by_cases hx : x % 2 = 1
  · rw [if_pos hx]
    intro e
    have : x / 2 = 3988292384 := of_xor _ _ e
    omega
  · rw [if_neg hx, Nat.xor_zero]; omega
theorem its_pos (n : Nat) : ∀ x, x < 4294967296 → x ≠ 0 → its n x ≠ 0 := by
  induction n with
  | zero => intro x _ h; exact h
  | succ n ih => intro x h h0; exact ih _ (stp_lt x h) (stp_pos x h h0)

theorem runF_lt (r : Nat) (f : Nat → Nat) (hr : r < 4294967296) : ∀ n, (∀ j, j < n → f j < 256) → runF r f n < 4294967296 := by
  intro n
  induction n with
  | zero => intro _; exact hr
  | succ n ih =>
    intro h
    unfold runF
    exact its_lt 8 _ (Nat.xor_lt_two_pow (n := 32) (ih fun j hj => h j (by omega)) (by have := h n (by omega); omega))
theorem runF_congr (r : Nat) (f g : Nat → Nat) : ∀ n, (∀ j, j < n → f j = g j) → runF r f n = runF r g n := by
  intro n
  induction n with
  | zero => intro _; rfl
  | succ n ih => intro h; unfold runF; rw [ih fun j hj => h j (by omega), h n (by omega)]
theorem sumF_congr (f g : Nat → Nat) (n : Nat) (h : ∀ j, j < n → f j = g j) : sumF f n = sumF g n := by
  unfold sumF; rw [runF_congr _ f g n h]
theorem runF_behind (r : Nat) (f g h : Nat → Nat) (n : Nat) (h1 : ∀ j, j < n → h j = f j) : ∀ m, (∀ j, j < m → h (n + j) = g j) → runF r h (n + m) = runF (runF r f n) g m := by
  intro m
  induction m with
  | zero => intro _; exact runF_congr r h f n h1
  | succ m ih => intro h2; rw [show n + (m + 1) = (n + m) + 1 by omega]; unfold runF; rw [ih fun j hj => h2 j (by omega), h2 m (by omega)]
theorem runF_three (a b c : Nat → Nat) (x y z : Nat) : ∀ n, runF (x ^^^ y ^^^ z) (fun j => a j ^^^ b j ^^^ c j) n = runF x a n ^^^ runF y b n ^^^ runF z c n := by
  intro n
  induction n with
  | zero => rfl
  | succ n ih =>
    unfold runF
    rw [ih, ← its_xor, ← its_xor]
    congr 1
    ac_rfl
theorem runF_num (r : Nat) (f : Nat → Nat) : ∀ n, runF r f n = its (8 * n) (r ^^^ numF f n) := by
  intro n
  induction n with
  | zero => simp [runF, numF, its]
  | succ n ih =>
    unfold runF numF
    rw [ih, show 8 * (n + 1) = 8 * n + 8 by omega, its_add]
    congr 1
    rw [← Nat.xor_assoc, its_xor (8 * n) (r ^^^ numF f n), its_shift]
theorem numF_congr (f g : Nat → Nat) : ∀ n, (∀ j, j < n → f j = g j) → numF f n = numF g n := by
  intro n
  induction n with
  | zero => intro _; rfl
  | succ n ih => intro h; unfold numF; rw [ih fun j hj => h j (by omega), h n (by omega)]
theorem xor_mul_pow (a b k : Nat) : (a ^^^ b) * 2 ^ k = a * 2 ^ k ^^^ b * 2 ^ k := by
  rw [← Nat.shiftLeft_eq, ← Nat.shiftLeft_eq, ← Nat.shiftLeft_eq, Nat.shiftLeft_xor_distrib]
/-- A bit that is turned in one byte is a bit that is turned in the number. -/
theorem numF_turn (f g : Nat → Nat) (q s : Nat) (hq : g q = f q ^^^ 2 ^ s) : ∀ n, q < n → (∀ j, j < n → j ≠ q → g j = f j) → numF g n = numF f n ^^^ 2 ^ (8 * q + s) := by
  intro n
  induction n with
  | zero => intro h; omega
  | succ n ih =>
    intro h hj
    unfold numF
    by_cases e : q = n
    · subst e
      rw [numF_congr g f q fun j h => hj j (by omega) (by omega), hq, xor_mul_pow, Nat.xor_assoc]
      congr 2
      rw [← Nat.pow_add]; congr 1; omega
    · rw [ih (by omega) (fun j h1 h2 => hj j (by omega) h2), hj n (by omega) (fun e' => e e'.symm)]
      ac_rfl
/-- Two texts of one length that are P apart from bit k on have one sum just where P is nothing. -/
theorem runF_burst (r : Nat) (f g : Nat → Nat) (n k P : Nat) (hk : k ≤ 8 * n) (hP : P < 4294967296) (h : numF g n = numF f n ^^^ P * 2 ^ k) : runF r g n = runF r f n ↔ P = 0 := by
  rw [runF_num, runF_num, h, ← Nat.xor_assoc, its_xor]
  have e : its (8 * n) (P * 2 ^ k) = its (8 * n - k) P := by
    rw [show 8 * n = k + (8 * n - k) by omega, its_add, its_shift]
    congr 1; omega
  rw [e]
  constructor
  · intro h1
    by_cases hp : P = 0
    · exact hp
    · exfalso
      refine its_pos (8 * n - k) P hP hp ?_
      have := congrArg (its (8 * n) (r ^^^ numF f n) ^^^ ·) h1
      simpa [← Nat.xor_assoc] using this
  · rintro rfl; rw [its_zero, Nat.xor_zero]
theorem not_nat (a : Nat) (h : a < 4294967296) : 4294967295 - a = 4294967295 ^^^ a := by
  apply Nat.eq_of_testBit_eq
  intro i
  rw [show 4294967295 - a = 2 ^ 32 - (a + 1) by omega, Nat.testBit_two_pow_sub_succ (by omega), Nat.testBit_xor, show 4294967295 = 2 ^ 32 - 1 by rfl, Nat.testBit_two_pow_sub_one]
  by_cases hi : i < 32
  · simp [hi]
  · have : a.testBit i = false := Nat.testBit_lt_two_pow (Nat.lt_of_lt_of_le h (show 2 ^ 32 ≤ 2 ^ i from Nat.pow_le_pow_right (by omega) (by omega)))
    simp [hi, this]
theorem not_three (x y z : Nat) (hx : x < 4294967296) (hy : y < 4294967296) (hz : z < 4294967296) : (4294967295 - x) ^^^ (4294967295 - y) ^^^ (4294967295 - z) = 4294967295 - (x ^^^ y ^^^ z) := by
  rw [not_nat x hx, not_nat y hy, not_nat z hz, not_nat (x ^^^ y ^^^ z) (Nat.xor_lt_two_pow (n := 32) (Nat.xor_lt_two_pow (n := 32) hx hy) hz)]
  rw [show 4294967295 ^^^ x ^^^ (4294967295 ^^^ y) ^^^ (4294967295 ^^^ z) = (4294967295 ^^^ 4294967295) ^^^ (4294967295 ^^^ (x ^^^ y ^^^ z)) by ac_rfl]
  simp
theorem sumF_three (a b c d : Nat → Nat) (n : Nat) (ha : ∀ j, j < n → a j < 256) (hb : ∀ j, j < n → b j < 256) (hc : ∀ j, j < n → c j < 256) (hd : ∀ j, j < n → d j = a j ^^^ b j ^^^ c j) : sumF d n = sumF a n ^^^ sumF b n ^^^ sumF c n := by
  unfold sumF
  rw [not_three _ _ _ (runF_lt _ a (by omega) n ha) (runF_lt _ b (by omega) n hb) (runF_lt _ c (by omega) n hc), ← runF_three, runF_congr _ d _ n hd]
  rfl
theorem sumF_lt (f : Nat → Nat) (n : Nat) : sumF f n < 4294967296 := by unfold sumF; omega
/-- A sum that is turned back, and gone on from, is the sum of both. -/
theorem sumF_behind (f g h : Nat → Nat) (n m : Nat) (hf : ∀ j, j < n → f j < 256) (h1 : ∀ j, j < n → h j = f j) (h2 : ∀ j, j < m → h (n + j) = g j) : 4294967295 - runF (4294967295 - sumF f n) g m = sumF h (n + m) := by
  have := runF_lt 4294967295 f (by omega) n hf
  unfold sumF
  rw [runF_behind _ f g h n h1 m h2, show 4294967295 - (4294967295 - runF 4294967295 f n) = runF 4294967295 f n by omega]
theorem sumF_alone (f g : Nat → Nat) (n : Nat) : 4294967295 - runF (4294967295 - sumF f n) g 0 = sumF f n := by
  show 4294967295 - (4294967295 - sumF f n) = sumF f n
  have := sumF_lt f n
  omega
theorem sumF_le (f : Nat → Nat) (n : Nat) : sumF f n ≤ 4294967295 := by unfold sumF; omega

/-- Half a byte's moves. -/
def halfTab : List Nat := [0, 498536548, 997073096, 651767980, 1994146192, 1802195444, 1303535960, 1342533948, 3988292384, 4027552580, 3604390888, 3412177804, 2607071920, 2262029012, 2685067896, 3183342108]
theorem halfTab_its : ∀ x, x < 16 → halfTab.getD x 0 = its 4 x := by decide +kernel
theorem halfTab_lt : ∀ x, x < 16 → halfTab.getD x 0 < 4294967296 := by decide +kernel
theorem half_its (x : Nat) : x / 16 ^^^ halfTab.getD (x % 16) 0 = its 4 x := by
  rw [halfTab_its _ (Nat.mod_lt _ (by omega))]
  have e : x = (x / 16 * 2 ^ 4) ^^^ (x % 16) := by
    apply Nat.eq_of_testBit_eq
    intro i
    rw [Nat.testBit_xor]
    conv => lhs; rw [show x = 2 ^ 4 * (x / 16) + x % 16 by omega, Nat.testBit_two_pow_mul_add _ (Nat.mod_lt _ (by omega))]
    rw [Nat.mul_comm, Nat.testBit_two_pow_mul]
    by_cases hi : i < 4
    · simp [hi, Nat.not_le.2 hi]
    · have : (x % 16).testBit i = false := Nat.testBit_lt_two_pow (Nat.lt_of_lt_of_le (Nat.mod_lt _ (by omega)) (show 2 ^ 4 ≤ 2 ^ i from Nat.pow_le_pow_right (by omega) (by omega)))
      simp [hi, this, Nat.not_lt.1 hi]
  conv => rhs; rw [e, its_xor, its_shift]
theorem its_eight (x : Nat) : its 4 (its 4 x) = its 8 x := (its_add 4 4 x).symm
end Go.Proofs.YtdcanppiiikjgaaDoor
namespace Go.Proofs.YtdcanppiiikjgaaDoor
open Go.RowKit Go.ChangeShapes
set_option linter.unusedVariables false

/-- The table lies in its variable. -/
def Tab (w : World) : Prop := ∀ i, i < 16 → w.cell? ⟨1, i, none⟩ = some (.int .u32 ((halfTab.getD i 0 : Nat) : Int))
theorem Tab.lt {w : World} (h : Tab w) : 1 < w.heap.size := World.block_lt_of_cell? _ _ (h 0 (by omega))
theorem Tab.later {w w' : World} {B : Nat} (h : Tab w) (hb : Below B w w') (hB : 1 < B) : Tab w' := fun i hi => by
  rw [hb.cell (p := ⟨1, i, none⟩) hB]; exact h i hi

theorem half_any (r : Nat) (w : World) (hr : r < 4294967296) (h : Tab w) :
    Calls Tryd.prog 97 #[.int .u32 (r : Int)] w fun e w' => e = .returned (.int .u32 ((its 4 r : Nat) : Int)) ∧ w = w' := by
  have hb : bits .and .u32 (r : Int) 15 = ((r % 16 : Nat) : Int) := by
    have := u32_and_nat r 15 hr (by omega)
    rw [nat_mask4] at this
    exact this
  have hc := h (r % 16) (by omega)
  have hx : bits .xor .u32 ((r : Int) / 16) ((halfTab.getD (r % 16) 0 : Nat) : Int) = ((its 4 r : Nat) : Int) := by
    have := u32_xor_nat (r / 16) (halfTab.getD (r % 16) 0) (by omega) (halfTab_lt _ (by omega))
    rw [half_its] at this
    simpa using this
  generalize its 4 r = y at hx ⊢
  generalize halfTab.getD (r % 16) 0 = z at hx hc
  clear h
  go_enter Tryd.func97, Tryd.ntmps97
  go_wp2_with fail
  go_ret
  exact ⟨rfl, rfl⟩
end Go.Proofs.YtdcanppiiikjgaaDoor
namespace Go.Proofs.YtdcanppiiikjgaaDoor
open Go.RowKit Go.ChangeShapes
set_option linter.unusedVariables false

/-- From p on n bytes lie there, f. -/
def Bytes (w : World) (p : Option Addr) (n : Nat) (f : Nat → Nat) : Prop :=
  (∀ j, j < n → f j < 256) ∧ (0 < n → ∃ b off, p = some ⟨b, off, none⟩ ∧ b < w.heap.size ∧ ∀ j, j < n → w.cell? ⟨b, off + j, none⟩ = some (.int .u8 ((f j : Nat) : Int)))
theorem Bytes.later {w w' : World} {p : Option Addr} {n : Nat} {f : Nat → Nat} (h : Bytes w p n f) (hb : Below w.heap.size w w') : Bytes w' p n f := by
  refine ⟨h.1, fun h0 => ?_⟩
  obtain ⟨b, off, hp, hlt, hc⟩ := h.2 h0
  exact ⟨b, off, hp, Nat.lt_of_lt_of_le hlt hb.size, fun j hj => by rw [hb.cell (p := ⟨b, off + j, none⟩) hlt]; exact hc j hj⟩

theorem more_any (s : Nat) (p : Option Addr) (n cap : Nat) (f : Nat → Nat) (w : World) (hs : s < 4294967296) (hB : Bytes w p n f) (hbig : n ≤ 1000000) (hT : Tab w) :
    Calls Tryd.prog 78 #[.int .u32 (s : Int), .slice p n cap] w fun e w' => e = .returned (.int .u32 ((4294967295 - runF (4294967295 - s) f n : Nat) : Int)) ∧ w = w' := by
  have HT := Lib.hid hT
  have HB := Lib.hid hB
  have hn (x : Nat) (h : x < 4294967296) : bits .xor .u32 IntKind.u32.max (x : Int) = ((4294967295 - x : Nat) : Int) := by
    rw [show IntKind.u32.max = 4294967295 by rfl]
    have := u32_xor_nat 4294967295 x (by omega) h
    rw [← not_nat x h] at this
    exact this
  have h0 := hn s hs
  have HN := Lib.hid hn
  clear hT hB hn
  have hq : (4294967295 - s : Nat) < 4294967296 := by omega
  generalize (4294967295 - s : Nat) = q at *
  go_enter Tryd.func78, Tryd.ntmps78
  go_wp2_with fail
  go_loop [5, 12] (fun r i => ∃ k : Nat, k ≤ n ∧ r = .int .u32 ((runF q f k : Nat) : Int) ∧ i = .int .i64 k) (fun _ i => n - (intOf i).toNat)
  case atStart => exact ⟨0, Nat.zero_le _, rfl, rfl⟩
  case round =>
    obtain ⟨k, hk, rfl, rfl⟩ := hrel
    by_cases hlt : k < n
    · obtain ⟨b, off, rfl, hbl, hc⟩ := HB.out.2 (by omega)
      have hck := hc k hlt
      have hfk := HB.out.1 k hlt
      have hrk : runF q f k < 4294967296 := runF_lt q f hq k fun j hj => HB.out.1 j (by omega)
      have hx := u32_xor_nat (runF q f k) (f k) hrk (by omega)
      have hlt2 : runF q f k ^^^ f k < 4294967296 := Nat.xor_lt_two_pow (n := 32) hrk (by omega)
      have he : Hid (its 4 (its 4 (runF q f k ^^^ f k)) = runF q f (k + 1)) := Lib.hid (its_eight _)
      clear hc
      generalize hy : runF q f (k + 1) = y at he
      have HY := Lib.hid hy
      clear hy
      generalize runF q f k = x at *
      generalize f k = z at *
      generalize x ^^^ z = v at *
      go_wp2_with fail
      refine (half_any _ _ hlt2 HT.out).mono ?_
      rintro e w' ⟨rfl, rfl⟩
      go_wp2_with fail
      refine (half_any _ _ (its_lt _ _ hlt2) HT.out).mono ?_
      rintro e w' ⟨rfl, rfl⟩
      rw [he.out]
      go_wp2_with fail
      go_round
      case rel => exact ⟨k + 1, by omega, by rw [HY.out], by go_num⟩
      case measure => simp [intOf]; omega
    · obtain rfl : k = n := by omega
      have hrk : runF q f k < 4294967296 := runF_lt q f hq k HB.out.1
      generalize hx : runF q f k = x at *
      have HX := Lib.hid hx
      clear hx
      go_wp2_with fail
      rw [HN.out x hrk]
      go_ret
      exact ⟨by rw [HX.out]; rfl, rfl⟩

theorem sum_any (p : Option Addr) (n cap : Nat) (f : Nat → Nat) (w : World) (hB : Bytes w p n f) (hbig : n ≤ 1000000) (hT : Tab w) :
    Calls Tryd.prog 31 #[.slice p n cap] w fun e w' => e = .returned (.int .u32 ((sumF f n : Nat) : Int)) ∧ w = w' := by
  have HT := Lib.hid hT
  have HB := Lib.hid hB
  clear hT hB
  go_enter Tryd.func31, Tryd.ntmps31
  go_wp2_with fail
  refine (more_any 0 _ _ _ f _ (by omega) HB.out hbig HT.out).mono ?_
  rintro e w' ⟨rfl, rfl⟩
  go_wp2_with fail
  go_ret
  exact ⟨rfl, rfl⟩

end Go.Proofs.YtdcanppiiikjgaaDoor
namespace Go.Proofs.YtdcanppiiikjgaaDoor
open Go.RowKit Go.ChangeShapes
set_option linter.unusedVariables false

theorem its_succ (k : Nat) : ∀ x, its (k + 1) x = stp (its k x) := by
  induction k with
  | zero => intro x; rfl
  | succ k ih => intro x; exact ih (stp x)

end Go.Proofs.YtdcanppiiikjgaaDoor
namespace Go.Proofs.YtdcanppiiikjgaaDoor
set_option linter.unusedVariables false

/-- The sum of bytes. -/
def sumL (P : List Nat) : Nat := sumF (fun j => P.getD j 0) P.length
theorem sumL_lt (P : List Nat) : sumL P < 4294967296 := sumF_lt _ _
/-- A frame. -/
def frm (P : List Nat) : List Nat := le P.length 2 ++ (le (sumL P) 4 ++ P)
/-- A payload that may be framed. -/
def good (P : List Nat) : Bool := decide (1 ≤ P.length ∧ P.length ≤ 512)
theorem good_iff (P : List Nat) : good P = true ↔ 1 ≤ P.length ∧ P.length ≤ 512 := by simp [good]
theorem frm_len (P : List Nat) : (frm P).length = 6 + P.length := by
  unfold frm
  rw [List.length_append, List.length_append, le_len, le_len]
  omega
/-- The first frame of some bytes: its payload's length, its sum, its payload, what is wrong with it. -/
def nN (B : List Nat) : Nat := un (B.take 2)
def nS (B : List Nat) : Nat := un ((B.drop 2).take 4)
def nP (B : List Nat) : List Nat := (B.drop 6).take (nN B)
def nE (B : List Nat) : Int := if B.length < 6 then 6 else if nN B = 0 ∨ 512 < nN B then 8 else if B.length < 6 + nN B then 6 else if sumL (nP B) = nS B then 0 else 9
theorem nE_short {B : List Nat} (h : B.length < 6) : nE B = 6 := if_pos h
theorem nE_form {B : List Nat} (h : ¬ B.length < 6) (h2 : nN B = 0 ∨ 512 < nN B) : nE B = 8 := by unfold nE; rw [if_neg h, if_pos h2]
theorem nE_less {B : List Nat} (h : ¬ B.length < 6) (h2 : ¬ (nN B = 0 ∨ 512 < nN B)) (h3 : B.length < 6 + nN B) : nE B = 6 := by unfold nE; rw [if_neg h, if_neg h2, if_pos h3]
theorem nE_ok {B : List Nat} (h : ¬ B.length < 6) (h2 : ¬ (nN B = 0 ∨ 512 < nN B)) (h3 : ¬ B.length < 6 + nN B) (h4 : sumL (nP B) = nS B) : nE B = 0 := by unfold nE; rw [if_neg h, if_neg h2, if_neg h3, if_pos h4]
theorem nE_sum {B : List Nat} (h : ¬ B.length < 6) (h2 : ¬ (nN B = 0 ∨ 512 < nN B)) (h3 : ¬ B.length < 6 + nN B) (h4 : ¬ sumL (nP B) = nS B) : nE B = 9 := by unfold nE; rw [if_neg h, if_neg h2, if_neg h3, if_neg h4]
theorem nE_zero {B : List Nat} (h : nE B = 0) : 6 ≤ B.length ∧ 1 ≤ nN B ∧ nN B ≤ 512 ∧ 6 + nN B ≤ B.length := by
  unfold nE at h
  split at h
  · omega
  · split at h
    · omega
    · split at h
      · omega
      · omega
theorem nE_cases (B : List Nat) : nE B = 0 ∨ nE B = 6 ∨ nE B = 8 ∨ nE B = 9 := by
  unfold nE
  split
  · omega
  · split
    · omega
    · split
      · omega
      · split <;> omega
theorem nP_len {B : List Nat} (h : nE B = 0) : (nP B).length = nN B := by
  have := nE_zero h
  unfold nP
  rw [List.length_take, List.length_drop]
  omega
/-- The payloads of all frames, how many bytes they have, and what is wrong behind them. -/
def scanF : Nat → List Nat → List (List Nat) × Nat × Int
  | 0, _ => ([], 0, 0)
  | f + 1, B => if B.length = 0 then ([], 0, 0) else if nE B = 0 then (nP B :: (scanF f (B.drop (6 + nN B))).1, 6 + nN B + (scanF f (B.drop (6 + nN B))).2.1, (scanF f (B.drop (6 + nN B))).2.2) else ([], 0, nE B)
def scan (B : List Nat) : List (List Nat) × Nat × Int := scanF B.length B
theorem scanF_same : ∀ (f g : Nat) (B : List Nat), B.length ≤ f → B.length ≤ g → scanF f B = scanF g B
  | 0, 0, _, _, _ => rfl
  | 0, g + 1, B, h, _ => by
    unfold scanF
    rw [if_pos (by omega)]
  | f + 1, 0, B, _, h => by
    unfold scanF
    rw [if_pos (by omega)]
  | f + 1, g + 1, B, hf, hg => by
    unfold scanF
    by_cases h0 : B.length = 0
    · rw [if_pos h0, if_pos h0]
    · rw [if_neg h0, if_neg h0]
      have e := scanF_same f g (B.drop (6 + nN B)) (by rw [List.length_drop]; omega) (by rw [List.length_drop]; omega)
      rw [e]
theorem scan_nil : scan [] = ([], 0, 0) := rfl
theorem scan_bad {B : List Nat} (h0 : B.length ≠ 0) (h : nE B ≠ 0) : scan B = ([], 0, nE B) := by
  unfold scan
  obtain ⟨n, hn⟩ : ∃ n, B.length = n + 1 := ⟨B.length - 1, by omega⟩
  rw [hn]
  unfold scanF
  rw [if_neg h0, if_neg h]
theorem scan_ok {B : List Nat} (h : nE B = 0) : scan B = (nP B :: (scan (B.drop (6 + nN B))).1, 6 + nN B + (scan (B.drop (6 + nN B))).2.1, (scan (B.drop (6 + nN B))).2.2) := by
  have h1 := nE_zero h
  obtain ⟨n, hn⟩ : ∃ n, B.length = n + 1 := ⟨B.length - 1, by omega⟩
  have e : scanF n (B.drop (6 + nN B)) = scan (B.drop (6 + nN B)) := scanF_same _ _ _ (by rw [List.length_drop]; omega) (Nat.le_refl _)
  conv => lhs; unfold scan
  rw [hn]
  unfold scanF
  rw [if_neg (by omega), if_pos h, e]
/-- How far a scan is: what is out, and where it stands. -/
structure Sc (B : List Nat) (out : List (List Nat)) (at_ : Nat) : Prop where
  le : at_ ≤ B.length
  eq : scan B = (out ++ (scan (B.drop at_)).1, at_ + (scan (B.drop at_)).2.1, (scan (B.drop at_)).2.2)
  few : 7 * out.length ≤ at_
theorem Sc.start (B : List Nat) : Sc B [] 0 := ⟨Nat.zero_le _, by simp, Nat.zero_le _⟩
theorem Sc.step {B : List Nat} {out : List (List Nat)} {i : Nat} (h : Sc B out i) (he : nE (B.drop i) = 0) : Sc B (out ++ [nP (B.drop i)]) (i + (6 + nN (B.drop i))) := by
  have h1 := nE_zero he
  have h2 := h.le
  rw [List.length_drop] at h1
  refine ⟨by omega, ?_, ?_⟩
  · rw [h.eq, scan_ok he, List.drop_drop]
    simp only [List.append_assoc, List.singleton_append, Nat.add_assoc]
  · have := h.few
    rw [List.length_append, List.length_singleton]
    omega
theorem Sc.done {B : List Nat} {out : List (List Nat)} (h : Sc B out B.length) : scan B = (out, B.length, 0) := by
  have e := h.eq
  rw [List.drop_length, scan_nil] at e
  simpa using e
theorem Sc.wrong {B : List Nat} {out : List (List Nat)} {i : Nat} (h : Sc B out i) (hi : i < B.length) (he : nE (B.drop i) ≠ 0) : scan B = (out, i, nE (B.drop i)) := by
  have e := h.eq
  rw [scan_bad (by rw [List.length_drop]; omega) he] at e
  simpa using e

/-- A frame with any sum and any payload, and what lies behind it. -/
def fr (n s : Nat) (Q X : List Nat) : List Nat := le n 2 ++ (le s 4 ++ (Q ++ X))
theorem fr_frm (P X : List Nat) : frm P ++ X = fr P.length (sumL P) P X := by simp [frm, fr]
theorem fr_len (n s : Nat) (Q X : List Nat) : (fr n s Q X).length = 6 + Q.length + X.length := by
  unfold fr
  rw [List.length_append, List.length_append, List.length_append, le_len, le_len]
  omega
theorem fr_nN (n s : Nat) (Q X : List Nat) (hn : n < 65536) : nN (fr n s Q X) = n := by
  unfold nN fr
  rw [List.take_append_of_le_length (by rw [le_len]; omega), List.take_of_length_le (by rw [le_len]; omega), un_le]
  omega
theorem fr_drop2 (n s : Nat) (Q X : List Nat) : (fr n s Q X).drop 2 = le s 4 ++ (Q ++ X) := by
  unfold fr
  exact List.drop_left' (le_len _ _)
theorem fr_drop6 (n s : Nat) (Q X : List Nat) : (fr n s Q X).drop 6 = Q ++ X := by
  rw [show 6 = 2 + 4 by rfl, ← List.drop_drop, fr_drop2]
  exact List.drop_left' (le_len _ _)
theorem fr_nS (n s : Nat) (Q X : List Nat) (hs : s < 4294967296) : nS (fr n s Q X) = s := by
  unfold nS
  rw [fr_drop2, List.take_append_of_le_length (by rw [le_len]; omega), List.take_of_length_le (by rw [le_len]; omega), un_le]
  omega
theorem fr_nP (s : Nat) (Q X : List Nat) (hn : Q.length < 65536) : nP (fr Q.length s Q X) = Q := by
  unfold nP
  rw [fr_nN _ _ _ _ hn, fr_drop6, List.take_left]
theorem fr_rest (s : Nat) (Q X : List Nat) (hn : Q.length < 65536) : (fr Q.length s Q X).drop (6 + nN (fr Q.length s Q X)) = X := by
  rw [fr_nN _ _ _ _ hn, ← List.drop_drop, fr_drop6, List.drop_left]
theorem fr_nE (s : Nat) (Q X : List Nat) (h1 : 1 ≤ Q.length) (h2 : Q.length ≤ 512) (hs : s < 4294967296) : nE (fr Q.length s Q X) = if sumL Q = s then 0 else 9 := by
  have e1 := fr_nN Q.length s Q X (by omega)
  have e2 := fr_nS Q.length s Q X hs
  have e3 := fr_nP s Q X (by omega)
  have e4 := fr_len Q.length s Q X
  unfold nE
  rw [e1, e2, e3, e4, if_neg (by omega), if_neg (by omega), if_neg (by omega)]
/-- Of a frame that is cut off there is too little. -/
theorem frm_cut (P X : List Nat) (hP : good P = true) (n : Nat) (hn : n < 6 + P.length) : nE ((frm P ++ X).take n) = 6 := by
  have h1 := (good_iff P).1 hP
  have hl : ((frm P ++ X).take n).length = n := by rw [List.length_take, List.length_append, frm_len]; omega
  by_cases h6 : n < 6
  · exact nE_short (by rw [hl]; exact h6)
  · have e : nN ((frm P ++ X).take n) = P.length := by
      unfold nN
      rw [List.take_take, Nat.min_eq_left (by omega), fr_frm]
      exact fr_nN _ _ _ _ (by omega)
    exact nE_less (by rw [hl]; exact h6) (by rw [e]; omega) (by rw [hl, e]; exact hn)

/-- Frames one behind another. -/
def flat (G : List (List Nat)) : List Nat := G.flatMap frm
theorem flat_cons (P : List Nat) (G : List (List Nat)) : flat (P :: G) = frm P ++ flat G := rfl
theorem flat_append (F G : List (List Nat)) : flat (F ++ G) = flat F ++ flat G := List.flatMap_append ..
theorem flat_one (P : List Nat) : flat [P] = frm P := by simp [flat]
/-- Where the frame ahead of number k ends. -/
def endAt (G : List (List Nat)) (k : Nat) : Nat := (flat (G.take k)).length
theorem endAt_zero (G : List (List Nat)) : endAt G 0 = 0 := rfl
theorem endAt_cons (P : List Nat) (G : List (List Nat)) (k : Nat) : endAt (P :: G) (k + 1) = 6 + P.length + endAt G k := by
  unfold endAt
  rw [List.take_succ_cons, flat_cons, List.length_append, frm_len]
theorem endAt_succ (G : List (List Nat)) (k : Nat) (h : k < G.length) : endAt G (k + 1) = endAt G k + (6 + (G.getD k []).length) := by
  unfold endAt
  rw [List.take_succ_eq_append_getElem h, flat_append, List.length_append, flat_one, frm_len, List.getD, List.getElem?_eq_getElem h]
  rfl
theorem endAt_mono (G : List (List Nat)) : ∀ i j, i ≤ j → endAt G i ≤ endAt G j := by
  intro i j h
  induction j with
  | zero => rw [Nat.le_zero.1 h]; exact Nat.le_refl _
  | succ j ih =>
    rcases Nat.lt_or_ge j i with h1 | h1
    · rw [show i = j + 1 by omega]; exact Nat.le_refl _
    · refine Nat.le_trans (ih h1) ?_
      by_cases hj : j < G.length
      · rw [endAt_succ G j hj]; omega
      · unfold endAt
        rw [List.take_of_length_le (by omega), List.take_of_length_le (by omega)]
        exact Nat.le_refl _
theorem endAt_all (G : List (List Nat)) : endAt G G.length = (flat G).length := by unfold endAt; rw [List.take_length]
theorem endAt_few (G : List (List Nat)) (hg : ∀ P ∈ G, good P = true) (k : Nat) : endAt G k ≤ 518 * k := by
  induction k with
  | zero => exact Nat.le_refl _
  | succ k ih =>
    by_cases hk : k < G.length
    · rw [endAt_succ G k hk]
      have : (G.getD k []).length ≤ 512 := by
        rw [List.getD, List.getElem?_eq_getElem hk]
        exact ((good_iff _).1 (hg _ (List.getElem_mem hk))).2
      omega
    · unfold endAt at *
      rw [List.take_of_length_le (by omega)] at *
      omega
/-- Of frames that are cut off just the whole ones are scanned. -/
theorem scan_cut : ∀ (G : List (List Nat)), (∀ P ∈ G, good P = true) → ∀ n, n ≤ (flat G).length → ∃ k, k ≤ G.length ∧ endAt G k ≤ n ∧ (k < G.length → n < endAt G (k + 1)) ∧ scan ((flat G).take n) = (G.take k, endAt G k, if endAt G k < n then 6 else 0)
  | [], _, n, hn => by
    obtain rfl : n = 0 := Nat.le_zero.1 hn
    exact ⟨0, Nat.le_refl _, Nat.le_refl _, fun h => absurd h (Nat.lt_irrefl _), rfl⟩
  | P :: G, hg, n, hn => by
    have hP := hg P (List.mem_cons_self ..)
    have hb := (good_iff P).1 hP
    by_cases hlt : n < 6 + P.length
    · refine ⟨0, Nat.zero_le _, Nat.zero_le _, fun _ => ?_, ?_⟩
      · rw [endAt_cons]; omega
      · rw [flat_cons]
        by_cases h0 : n = 0
        · subst h0; rfl
        · have hl : ((frm P ++ flat G).take n).length = n := by rw [List.length_take, List.length_append, frm_len]; omega
          rw [scan_bad (by rw [hl]; exact h0) (by rw [frm_cut P _ hP n hlt]; omega), frm_cut P _ hP n hlt, endAt_zero, if_pos (by omega)]
          rfl
    · obtain ⟨m, rfl⟩ : ∃ m, n = 6 + P.length + m := ⟨n - (6 + P.length), by omega⟩
      rw [flat_cons, List.length_append, frm_len] at hn
      obtain ⟨k, h1, h2, h3, h4⟩ := scan_cut G (fun Q hQ => hg Q (List.mem_cons_of_mem _ hQ)) m (by omega)
      refine ⟨k + 1, by simpa using h1, by rw [endAt_cons]; omega, fun hk => ?_, ?_⟩
      · rw [endAt_cons]
        have := h3 (by simpa using hk)
        omega
      · have e : (flat (P :: G)).take (6 + P.length + m) = frm P ++ (flat G).take m := by
          rw [flat_cons, ← frm_len, List.take_length_add_append]
        have ok : nE (frm P ++ (flat G).take m) = 0 := by rw [fr_frm, fr_nE _ _ _ hb.1 hb.2 (sumL_lt P), if_pos rfl]
        rw [e, scan_ok ok]
        have e2 : (frm P ++ (flat G).take m).drop (6 + nN (frm P ++ (flat G).take m)) = (flat G).take m := by rw [fr_frm]; exact fr_rest _ _ _ (by omega)
        have e3 : nP (frm P ++ (flat G).take m) = P := by rw [fr_frm]; exact fr_nP _ _ _ (by omega)
        have e4 : nN (frm P ++ (flat G).take m) = P.length := by rw [fr_frm]; exact fr_nN _ _ _ _ (by omega)
        rw [e2, e3, e4, h4, endAt_cons, List.take_succ_cons]
        refine Prod.ext rfl (Prod.ext rfl ?_)
        show (if endAt G k < m then (6 : Int) else 0) = if 6 + P.length + endAt G k < 6 + P.length + m then 6 else 0
        by_cases h : endAt G k < m
        · rw [if_pos h, if_pos (by omega)]
        · rw [if_neg h, if_neg (by omega)]
/-- There is one such number. -/
theorem cut_one (G : List (List Nat)) (n i j : Nat) (hi : i ≤ G.length) (hj : j ≤ G.length) (h1 : endAt G i ≤ n) (h2 : i < G.length → n < endAt G (i + 1)) (h3 : endAt G j ≤ n) (h4 : j < G.length → n < endAt G (j + 1)) : i = j := by
  rcases Nat.lt_trichotomy i j with h | h | h
  · have := h2 (by omega)
    have := endAt_mono G (i + 1) j h
    omega
  · exact h
  · have := h4 (by omega)
    have := endAt_mono G (j + 1) i h
    omega
/-- All frames are scanned. -/
theorem scan_flat (G : List (List Nat)) (hg : ∀ P ∈ G, good P = true) : scan (flat G) = (G, (flat G).length, 0) := by
  obtain ⟨k, h1, h2, h3, h4⟩ := scan_cut G hg (flat G).length (Nat.le_refl _)
  rw [List.take_length] at h4
  have hk : k = G.length := by
    rcases Nat.lt_or_ge k G.length with h | h
    · have := h3 h
      have := endAt_mono G (k + 1) G.length h
      rw [endAt_all] at this
      omega
    · omega
  subst hk
  rw [h4, List.take_length, endAt_all, if_neg (Nat.lt_irrefl _)]
/-- Behind frames that are whole one is spoilt. -/
theorem scan_spoilt : ∀ (G : List (List Nat)), (∀ P ∈ G, good P = true) → ∀ (s : Nat) (Q X : List Nat), 1 ≤ Q.length → Q.length ≤ 512 → s < 4294967296 → sumL Q ≠ s → scan (flat G ++ fr Q.length s Q X) = (G, (flat G).length, 9)
  | [], _, s, Q, X, h1, h2, hs, hne => by
    have e : nE (fr Q.length s Q X) = 9 := by rw [fr_nE _ _ _ h1 h2 hs, if_neg hne]
    show scan (fr Q.length s Q X) = ([], 0, 9)
    rw [scan_bad (by rw [fr_len]; omega) (by rw [e]; omega), e]
  | P :: G, hg, s, Q, X, h1, h2, hs, hne => by
    have hP := hg P (List.mem_cons_self ..)
    have hb := (good_iff P).1 hP
    have ih := scan_spoilt G (fun Q hQ => hg Q (List.mem_cons_of_mem _ hQ)) s Q X h1 h2 hs hne
    rw [flat_cons, List.append_assoc]
    have ok : nE (frm P ++ (flat G ++ fr Q.length s Q X)) = 0 := by rw [fr_frm, fr_nE _ _ _ hb.1 hb.2 (sumL_lt P), if_pos rfl]
    have e2 : (frm P ++ (flat G ++ fr Q.length s Q X)).drop (6 + nN (frm P ++ (flat G ++ fr Q.length s Q X))) = flat G ++ fr Q.length s Q X := by rw [fr_frm]; exact fr_rest _ _ _ (by omega)
    have e3 : nP (frm P ++ (flat G ++ fr Q.length s Q X)) = P := by rw [fr_frm]; exact fr_nP _ _ _ (by omega)
    have e4 : nN (frm P ++ (flat G ++ fr Q.length s Q X)) = P.length := by rw [fr_frm]; exact fr_nN _ _ _ _ (by omega)
    rw [scan_ok ok, e2, e3, e4, ih, List.length_append, frm_len]
/-- What can be framed of the first i payloads. -/
def put (Ls : List (List Nat)) (i : Nat) : List (List Nat) := (Ls.take i).filter good
theorem put_zero (Ls : List (List Nat)) : put Ls 0 = [] := rfl
theorem put_good (Ls : List (List Nat)) (i : Nat) : ∀ P ∈ put Ls i, good P = true := fun P h => (List.mem_filter.1 h).2
theorem put_yes (Ls : List (List Nat)) (i : Nat) (hi : i < Ls.length) (h : good (Ls.getD i []) = true) : put Ls (i + 1) = put Ls i ++ [Ls.getD i []] := by
  unfold put
  rw [List.getD, List.getElem?_eq_getElem hi] at h ⊢
  replace h : good Ls[i] = true := h
  rw [List.take_succ_eq_append_getElem hi, List.filter_append]
  simp [h]
theorem put_no (Ls : List (List Nat)) (i : Nat) (hi : i < Ls.length) (h : good (Ls.getD i []) = false) : put Ls (i + 1) = put Ls i := by
  unfold put
  rw [List.getD, List.getElem?_eq_getElem hi] at h
  replace h : good Ls[i] = false := h
  rw [List.take_succ_eq_append_getElem hi, List.filter_append]
  simp [h]
theorem put_few (Ls : List (List Nat)) (i : Nat) : (put Ls i).length ≤ i := by
  unfold put
  exact Nat.le_trans (List.length_filter_le _ _) (by rw [List.length_take]; omega)
end Go.Proofs.YtdcanppiiikjgaaDoor
namespace Go.Proofs.YtdcanppiiikjgaaDoor
open Go.RowKit Go.ChangeShapes Go.WideShapes
set_option linter.unusedVariables false

/-- A slice of bytes, as the sum wants it. -/
theorem bytes_sl {w : World} {p : Option Addr} {n c : Nat} {L : List Nat} (h : Sl w p n c L) : Bytes w p n fun j => L.getD j 0 := by
  refine ⟨fun j _ => getD_lt h.lt j, fun h0 => ?_⟩
  obtain ⟨b, off, hp, hlt, hc⟩ := h.blk h0
  exact ⟨b, off, hp, hlt, hc⟩
theorem sum_sl (p : Option Addr) (n c : Nat) (L : List Nat) (w : World) (h : Sl w p n c L) (hbig : n ≤ 1000000) (hT : Tab w) :
    Calls Tryd.prog 31 #[.slice p n c] w fun e w' => e = .returned (.int .u32 ((sumL L : Nat) : Int)) ∧ w = w' := by
  have := sum_any p n c _ w (bytes_sl h) hbig hT
  rw [← h.len] at this ⊢
  exact this
/-- A call that hands back bytes of its own and an error. -/
def GivesE (W : World) (L : List Nat) (x : Int) (e : Ending) (w' : World) : Prop := ∃ p c, e = .returned (.tuple #[.slice p L.length c, .int .i64 x]) ∧ Sl w' p L.length c L ∧ Below W.heap.size W w' ∧ (∀ a, p = some a → W.heap.size ≤ a.block) ∧ c ≤ maxLen
/-- What Put hands back: the bytes, the error. -/
def putL (P : List Nat) : List Nat := if good P = true then frm P else []
def putE (P : List Nat) : Int := if P.length = 0 then 1 else if 512 < P.length then 7 else 0
theorem putE_good {P : List Nat} (h : good P = true) : putL P = frm P ∧ putE P = 0 := by
  have := (good_iff P).1 h
  exact ⟨if_pos h, by unfold putE; rw [if_neg (by omega), if_neg (by omega)]⟩
theorem putE_none {P : List Nat} (h : P.length = 0) : putL P = [] ∧ putE P = 1 := by
  refine ⟨if_neg fun h' => ?_, if_pos h⟩
  have := (good_iff P).1 h'
  omega
theorem putE_long {P : List Nat} (h : 512 < P.length) : putL P = [] ∧ putE P = 7 := by
  refine ⟨if_neg fun h' => ?_, by unfold putE; rw [if_neg (by omega), if_pos h]⟩
  have := (good_iff P).1 h'
  omega
theorem putE_bad {P : List Nat} (h : good P = false) : putL P = [] ∧ putE P ≠ 0 := by
  have h' : ¬ (1 ≤ P.length ∧ P.length ≤ 512) := fun hh => by rw [(good_iff P).2 hh] at h; cases h
  refine ⟨if_neg (by rw [h]; simp), ?_⟩
  unfold putE
  split
  · omega
  · split
    · omega
    · omega
theorem fgives_nil (w : World) (x : Int) (q : Nat) : GivesE w [] x (.returned (.tuple #[.slice none 0 0, .int .i64 x])) (w.drewN q) :=
  ⟨none, 0, rfl, Sl.none, below_drewN (Below.refl _ _) _, (fun a h => by cases h), Nat.zero_le _⟩
theorem fgives_nil0 (w : World) (x : Int) : GivesE w [] x (.returned (.tuple #[.slice none 0 0, .int .i64 x])) w :=
  ⟨none, 0, rfl, Sl.none, Below.refl _ _, (fun a h => by cases h), Nat.zero_le _⟩
theorem raw_step (most : Int) (L M : List Nat) (h : (L.length : Int) + (M.length : Int) ≤ most) : rawW most (0, L) M = (0, L ++ M) := by
  unfold rawW
  rw [if_pos rfl, if_neg (show ¬ most < ((L.length : Nat) : Int) + (M.length : Int) by omega)]
theorem num_step2 (most : Int) (L : List Nat) (x n : Nat) (h1 : 1 ≤ n) (h8 : n ≤ 8) (hx : x < 256 ^ n) (h : (L.length : Int) + (n : Int) ≤ most) : numW most (0, L) x n = (0, L ++ le x n) := by
  unfold numW
  rw [Int.toNat_natCast, if_pos ⟨by omega, by omega, hx⟩, raw_step _ _ _ (by rw [le_len]; exact h)]
theorem done_max (W w : World) (B : Nat) (most : Int) (L : List Nat) (h : WrOk W w B most (0, L)) (hl : L.length ≤ 100000) : Calls Tryd.prog 33 #[.pointer (some ⟨B, 0, none⟩)] w fun e w' => GivesE W L 0 e w' := by
  obtain ⟨v, hw, hB, hv, hb⟩ := h
  refine (done_any B v most (0, L) w hw hl).mono ?_
  rintro e w' ⟨h1, h2⟩
  rw [if_pos rfl] at h2
  obtain ⟨v, rfl, hr, ho⟩ := h2
  obtain ⟨q, d, rfl, hm, hs, hq⟩ := hr.sl
  exact ⟨_, _, rfl, hs, hb.trans (h1.mono hb.size), fun a ha => Nat.le_trans hb.size (ho _ (hq a ha)), hm⟩
theorem fput_any (p : Option Addr) (n c : Nat) (P : List Nat) (w : World) (hS : Sl w p n c P) (hn : n ≤ 1000000) (hT : Tab w) :
    Calls Tryd.prog 10 #[.slice p n c] w (GivesE w (putL P) (putE P)) := by
  have HS := Lib.hid hS
  have HT := Lib.hid hT
  have hl := hS.len
  clear hS hT
  by_cases h0 : n = 0
  · subst h0
    have he := putE_none hl
    rw [he.1, he.2]
    have HG := Lib.hid (fgives_nil0 w 1)
    clear he hl
    go_enter Tryd.func10, Tryd.ntmps10
    go_wp2_with fail
    go_ret2
    exact HG.out
  · by_cases h5 : 512 < n
    · have he := putE_long (P := P) (by omega)
      rw [he.1, he.2]
      have HG := Lib.hid (fgives_nil0 w 7)
      clear he hl
      go_enter Tryd.func10, Tryd.ntmps10
      go_wp2_with fail
      go_ret2
      exact HG.out
    · have hgood : good P = true := (good_iff P).2 (by omega)
      have he := putE_good hgood
      rw [he.1, he.2]
      have hs1 : sizeI (n : Int) = 6 + (n : Int) := if_neg (by omega)
      have hlim : lim (6 + (n : Int)) = 6 + (n : Int) := if_neg (by omega)
      have HL := Lib.hid hl
      have hx4 : sumL P < 4294967296 := sumL_lt P
      have N1 := Lib.hid (num_step2 (6 + (n : Int)) [] n 2 (by omega) (by omega) (by omega) (by simp; omega))
      have N2 := Lib.hid (num_step2 (6 + (n : Int)) (le n 2) (sumL P) 4 (by omega) (by omega) (by omega) (by rw [le_len]; omega))
      have N3 := Lib.hid (raw_step (6 + (n : Int)) (le n 2 ++ le (sumL P) 4) P (by rw [List.length_append, le_len, le_len, hl]; omega))
      have hfr : Hid (le n 2 ++ le (sumL P) 4 ++ P = frm P) := Lib.hid (by unfold frm; rw [hl, List.append_assoc])
      have hfl : Hid ((frm P).length ≤ 100000) := Lib.hid (by rw [frm_len]; omega)
      clear he hl hgood
      go_enter Tryd.func10, Tryd.ntmps10
      go_wp2_with fail
      refine (fsize_any _ _).mono ?_
      rintro e w1 ⟨rfl, rfl⟩
      rw [hs1]
      go_wp2_with fail
      refine (new_ok w w _ (Below.refl _ _)).mono ?_
      rintro e w1 ⟨B, rfl, hk⟩
      rw [hlim] at hk
      have HK := Lib.hid hk
      clear hk
      go_wp2_with fail
      refine (HK.out.step (T := (0, le n 2)) fun v hv => ?_).mono ?_
      · have := num_wr B v (6 + (n : Int)) (0, []) n 2 _ hv (by omega) (by omega) (by simp)
        rw [show (2 : Int) = ((2 : Nat) : Int) by rfl, N1.out] at this
        exact this
      rintro e w2 ⟨rfl, hk⟩
      have HK2 := Lib.hid hk
      have HS2 := Lib.hid (HS.out.later hk.below)
      have HT2 := Lib.hid (HT.out.later hk.below HT.out.lt)
      clear hk HK
      go_wp2_with fail
      refine (sum_sl p n c P _ HS2.out hn HT2.out).mono ?_
      rintro e w3 ⟨rfl, rfl⟩
      go_wp2_with fail
      refine (HK2.out.step (T := (0, le n 2 ++ le (sumL P) 4)) fun v hv => ?_).mono ?_
      · have := num_wr B v (6 + (n : Int)) (0, le n 2) (sumL P) 4 _ hv (by omega) (by omega) (by rw [le_len]; omega)
        rw [show (4 : Int) = ((4 : Nat) : Int) by rfl, N2.out] at this
        exact this
      rintro e w4 ⟨rfl, hk⟩
      have HK4 := Lib.hid hk
      have HS4 := Lib.hid (HS.out.later hk.below)
      clear hk HK2 HS2
      go_wp2_with fail
      refine (HK4.out.step (T := (0, frm P)) fun v hv => ?_).mono ?_
      · have := raw_any B v (6 + (n : Int)) (0, le n 2 ++ le (sumL P) 4) _ hv p n c P HS4.out (by omega) (by omega) (by rw [List.length_append, le_len, le_len]; omega)
        rw [N3.out, hfr.out] at this
        exact this
      rintro e w5 ⟨rfl, hk⟩
      have HK5 := Lib.hid hk
      clear hk HK4 HS4
      go_wp2_with fail
      refine (done_max w _ B _ _ HK5.out hfl.out).mono ?_
      rintro e w6 ⟨p', c', rfl, h1, h2, h3, h4⟩
      have HF : Hid (GivesE w (frm P) 0 (.returned (.tuple #[.slice p' (frm P).length c', .int .i64 0])) w6) := Lib.hid ⟨p', c', rfl, h1, h2, h3, h4⟩
      clear h1 h2 h3 h4
      generalize (frm P).length = m at *
      go_wp2_with fail
      go_ret2
      exact HF.out
end Go.Proofs.YtdcanppiiikjgaaDoor
