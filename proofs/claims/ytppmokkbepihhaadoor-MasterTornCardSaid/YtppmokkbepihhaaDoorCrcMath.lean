/- The sum of 32 bits as a map on numbers: one move of the register, and what is true of any number of moves. -/
import Derived.KernelRfl
namespace Go.Proofs.YtppmokkbepihhaaDoor
set_option linter.unusedVariables false

/-- One move. -/
def stp (x : Nat) : Nat := x / 2 ^^^ (if x % 2 = 1 then 3988292384 else 0)
/-- n moves. -/
def its : Nat → Nat → Nat
  | 0, x => x
  | n + 1, x => its n (stp x)
/-- The register behind n bytes. -/
def runF (r : Nat) (f : Nat → Nat) : Nat → Nat
  | 0 => r
  | n + 1 => its 8 (runF r f n ^^^ f n)
/-- The sum of n bytes. -/
def sumF (f : Nat → Nat) (n : Nat) : Nat := 4294967295 - runF 4294967295 f n
/-- n bytes as one number. -/
def numF (f : Nat → Nat) : Nat → Nat
  | 0 => 0
  | n + 1 => numF f n ^^^ (f n * 2 ^ (8 * n))

theorem stp_xor (x y : Nat) : stp (x ^^^ y) = stp x ^^^ stp y := by
  unfold stp
  have hm := @Nat.xor_mod_two_eq_one x y
  rw [Nat.xor_div_two]
  rcases Nat.mod_two_eq_zero_or_one x with hx | hx <;> rcases Nat.mod_two_eq_zero_or_one y with hy | hy
  · rw [if_neg (fun h => by have := hm.1 h; simp [hx, hy] at this), if_neg (by omega), if_neg (by omega)]; simp
  · rw [if_pos (hm.2 (by simp [hx, hy])), if_neg (by omega), if_pos (by omega)]; simp [Nat.xor_assoc]
  · rw [if_pos (hm.2 (by simp [hx, hy])), if_pos (by omega), if_neg (by omega)]; simp only [Nat.xor_zero]; ac_rfl
  · rw [if_neg (fun h => by have := hm.1 h; simp [hx, hy] at this), if_pos (by omega), if_pos (by omega)]
    rw [show x / 2 ^^^ 3988292384 ^^^ (y / 2 ^^^ 3988292384) = x / 2 ^^^ y / 2 ^^^ (3988292384 ^^^ 3988292384) by ac_rfl, Nat.xor_self, Nat.xor_zero]
/-- Two numbers that come to nothing are one. -/
theorem of_xor (x y : Nat) (h : x ^^^ y = 0) : x = y := by
  have := congrArg (· ^^^ y) h
  simpa [Nat.xor_assoc] using this
theorem stp_double (y : Nat) : stp (y * 2) = y := by
  unfold stp
  rw [if_neg (by omega), Nat.xor_zero]; omega
theorem its_xor (n : Nat) : ∀ x y, its n (x ^^^ y) = its n x ^^^ its n y := by
  induction n with
  | zero => intro x y; rfl
  | succ n ih => intro x y; unfold its; rw [stp_xor, ih]
theorem its_zero (n : Nat) : its n 0 = 0 := by
  have := its_xor n 0 0
  simp at this; exact this
theorem its_add (m : Nat) : ∀ n x, its (m + n) x = its n (its m x) := by
  induction m with
  | zero => intro n x; rw [Nat.zero_add]; rfl
  | succ m ih => intro n x; rw [show m + 1 + n = (m + n) + 1 by omega]; exact ih n _
theorem its_shift (m : Nat) : ∀ x, its m (x * 2 ^ m) = x := by
  induction m with
  | zero => intro x; simp [its]
  | succ m ih => intro x; rw [show x * 2 ^ (m + 1) = (x * 2 ^ m) * 2 by rw [Nat.pow_succ]; ac_rfl]; unfold its; rw [stp_double]; exact ih x
theorem stp_lt (x : Nat) (h : x < 4294967296) : stp x < 4294967296 := by
  unfold stp
  refine Nat.xor_lt_two_pow (n := 32) (by omega) ?_
  split <;> omega
theorem its_lt (n : Nat) : ∀ x, x < 4294967296 → its n x < 4294967296 := by
  induction n with
  | zero => intro x h; exact h
  | succ n ih => intro x h; exact ih _ (stp_lt x h)
theorem stp_pos (x : Nat) (h : x < 4294967296) (h0 : x ≠ 0) : stp x ≠ 0 := by
  unfold stp
  by_cases hx : x % 2 = 1
  · rw [if_pos hx]
    intro e
    have : x / 2 = 3988292384 := of_xor _ _ e
    omega
  · rw [if_neg hx, Nat.xor_zero]; omega
theorem its_pos (n : Nat) : ∀ x, x < 4294967296 → x ≠ 0 → its n x ≠ 0 := by
  induction n with
  | zero => intro x _ h; exact h
  | succ n ih => intro x h h0; exact ih _ (stp_lt x h) (stp_pos x h h0)

theorem runF_lt (r : Nat) (f : Nat → Nat) (hr : r < 4294967296) : ∀ n, (∀ j, j < n → f j < 256) → runF r f n < 4294967296 := by
  intro n
  induction n with
  | zero => intro _; exact hr
  | succ n ih =>
    intro h
    unfold runF
    exact its_lt 8 _ (Nat.xor_lt_two_pow (n := 32) (ih fun j hj => h j (by omega)) (by have := h n (by omega); omega))
theorem runF_congr (r : Nat) (f g : Nat → Nat) : ∀ n, (∀ j, j < n → f j = g j) → runF r f n = runF r g n := by
  intro n
  induction n with
  | zero => intro _; rfl
  | succ n ih => intro h; unfold runF; rw [ih fun j hj => h j (by omega), h n (by omega)]
theorem sumF_congr (f g : Nat → Nat) (n : Nat) (h : ∀ j, j < n → f j = g j) : sumF f n = sumF g n := by
  unfold sumF; rw [runF_congr _ f g n h]
theorem runF_behind (r : Nat) (f g h : Nat → Nat) (n : Nat) (h1 : ∀ j, j < n → h j = f j) : ∀ m, (∀ j, j < m → h (n + j) = g j) → runF r h (n + m) = runF (runF r f n) g m := by
  intro m
  induction m with
  | zero => intro _; exact runF_congr r h f n h1
  | succ m ih => intro h2; rw [show n + (m + 1) = (n + m) + 1 by omega]; unfold runF; rw [ih fun j hj => h2 j (by omega), h2 m (by omega)]
theorem runF_three (a b c : Nat → Nat) (x y z : Nat) : ∀ n, runF (x ^^^ y ^^^ z) (fun j => a j ^^^ b j ^^^ c j) n = runF x a n ^^^ runF y b n ^^^ runF z c n := by
  intro n
  induction n with
  | zero => rfl
  | succ n ih =>
    unfold runF
    rw [ih, ← its_xor, ← its_xor]
    congr 1
    ac_rfl
theorem runF_num (r : Nat) (f : Nat → Nat) : ∀ n, runF r f n = its (8 * n) (r ^^^ numF f n) := by
  intro n
  induction n with
  | zero => simp [runF, numF, its]
  | succ n ih =>
    unfold runF numF
    rw [ih, show 8 * (n + 1) = 8 * n + 8 by omega, its_add]
    congr 1
    rw [← Nat.xor_assoc, its_xor (8 * n) (r ^^^ numF f n), its_shift]
theorem numF_congr (f g : Nat → Nat) : ∀ n, (∀ j, j < n → f j = g j) → numF f n = numF g n := by
  intro n
  induction n with
  | zero => intro _; rfl
  | succ n ih => intro h; unfold numF; rw [ih fun j hj => h j (by omega), h n (by omega)]
theorem xor_mul_pow (a b k : Nat) : (a ^^^ b) * 2 ^ k = a * 2 ^ k ^^^ b * 2 ^ k := by
  rw [← Nat.shiftLeft_eq, ← Nat.shiftLeft_eq, ← Nat.shiftLeft_eq, Nat.shiftLeft_xor_distrib]
/-- A bit that is turned in one byte is a bit that is turned in the number. -/
theorem numF_turn (f g : Nat → Nat) (q s : Nat) (hq : g q = f q ^^^ 2 ^ s) : ∀ n, q < n → (∀ j, j < n → j ≠ q → g j = f j) → numF g n = numF f n ^^^ 2 ^ (8 * q + s) := by
  intro n
  induction n with
  | zero => intro h; omega
  | succ n ih =>
    intro h hj
    unfold numF
    by_cases e : q = n
    · subst e
      rw [numF_congr g f q fun j h => hj j (by omega) (by omega), hq, xor_mul_pow, Nat.xor_assoc]
      congr 2
      rw [← Nat.pow_add]; congr 1; omega
    · rw [ih (by omega) (fun j h1 h2 => hj j (by omega) h2), hj n (by omega) (fun e' => e e'.symm)]
      ac_rfl
/-- Two texts of one length that are P apart from bit k on have one sum just where P is nothing. -/
theorem runF_burst (r : Nat) (f g : Nat → Nat) (n k P : Nat) (hk : k ≤ 8 * n) (hP : P < 4294967296) (h : numF g n = numF f n ^^^ P * 2 ^ k) : runF r g n = runF r f n ↔ P = 0 := by
  rw [runF_num, runF_num, h, ← Nat.xor_assoc, its_xor]
  have e : its (8 * n) (P * 2 ^ k) = its (8 * n - k) P := by
    rw [show 8 * n = k + (8 * n - k) by omega, its_add, its_shift]
    congr 1; omega
  rw [e]
  constructor
  · intro h1
    by_cases hp : P = 0
    · exact hp
    · exfalso
      refine its_pos (8 * n - k) P hP hp ?_
      have := congrArg (its (8 * n) (r ^^^ numF f n) ^^^ ·) h1
      simpa [← Nat.xor_assoc] using this
  · rintro rfl; rw [its_zero, Nat.xor_zero]
theorem not_nat (a : Nat) (h : a < 4294967296) : 4294967295 - a = 4294967295 ^^^ a := by
  apply Nat.eq_of_testBit_eq
  intro i
  rw [show 4294967295 - a = 2 ^ 32 - (a + 1) by omega, Nat.testBit_two_pow_sub_succ (by omega), Nat.testBit_xor, show 4294967295 = 2 ^ 32 - 1 by rfl, Nat.testBit_two_pow_sub_one]
  by_cases hi : i < 32
  · simp [hi]
  · have : a.testBit i = false := Nat.testBit_lt_two_pow (Nat.lt_of_lt_of_le h (show 2 ^ 32 ≤ 2 ^ i from Nat.pow_le_pow_right (by omega) (by omega)))
    simp [hi, this]
theorem not_three (x y z : Nat) (hx : x < 4294967296) (hy : y < 4294967296) (hz : z < 4294967296) : (4294967295 - x) ^^^ (4294967295 - y) ^^^ (4294967295 - z) = 4294967295 - (x ^^^ y ^^^ z) := by
  rw [not_nat x hx, not_nat y hy, not_nat z hz, not_nat (x ^^^ y ^^^ z) (Nat.xor_lt_two_pow (n := 32) (Nat.xor_lt_two_pow (n := 32) hx hy) hz)]
  rw [show 4294967295 ^^^ x ^^^ (4294967295 ^^^ y) ^^^ (4294967295 ^^^ z) = (4294967295 ^^^ 4294967295) ^^^ (4294967295 ^^^ (x ^^^ y ^^^ z)) by ac_rfl]
  simp
theorem sumF_three (a b c d : Nat → Nat) (n : Nat) (ha : ∀ j, j < n → a j < 256) (hb : ∀ j, j < n → b j < 256) (hc : ∀ j, j < n → c j < 256) (hd : ∀ j, j < n → d j = a j ^^^ b j ^^^ c j) : sumF d n = sumF a n ^^^ sumF b n ^^^ sumF c n := by
  unfold sumF
  rw [not_three _ _ _ (runF_lt _ a (by omega) n ha) (runF_lt _ b (by omega) n hb) (runF_lt _ c (by omega) n hc), ← runF_three, runF_congr _ d _ n hd]
  rfl
theorem sumF_lt (f : Nat → Nat) (n : Nat) : sumF f n < 4294967296 := by unfold sumF; omega
/-- A sum that is turned back, and gone on from, is the sum of both. -/
theorem sumF_behind (f g h : Nat → Nat) (n m : Nat) (hf : ∀ j, j < n → f j < 256) (h1 : ∀ j, j < n → h j = f j) (h2 : ∀ j, j < m → h (n + j) = g j) : 4294967295 - runF (4294967295 - sumF f n) g m = sumF h (n + m) := by
  have := runF_lt 4294967295 f (by omega) n hf
  unfold sumF
  rw [runF_behind _ f g h n h1 m h2, show 4294967295 - (4294967295 - runF 4294967295 f n) = runF 4294967295 f n by omega]
theorem sumF_alone (f g : Nat → Nat) (n : Nat) : 4294967295 - runF (4294967295 - sumF f n) g 0 = sumF f n := by
  show 4294967295 - (4294967295 - sumF f n) = sumF f n
  have := sumF_lt f n
  omega
theorem sumF_le (f : Nat → Nat) (n : Nat) : sumF f n ≤ 4294967295 := by unfold sumF; omega

/-- Half a byte's moves. -/
def halfTab : List Nat := [0, 498536548, 997073096, 651767980, 1994146192, 1802195444, 1303535960, 1342533948, 3988292384, 4027552580, 3604390888, 3412177804, 2607071920, 2262029012, 2685067896, 3183342108]
theorem halfTab_its : ∀ x, x < 16 → halfTab.getD x 0 = its 4 x := by decide +kernel
theorem halfTab_lt : ∀ x, x < 16 → halfTab.getD x 0 < 4294967296 := by decide +kernel
theorem half_its (x : Nat) : x / 16 ^^^ halfTab.getD (x % 16) 0 = its 4 x := by
  rw [halfTab_its _ (Nat.mod_lt _ (by omega))]
  have e : x = (x / 16 * 2 ^ 4) ^^^ (x % 16) := by
    apply Nat.eq_of_testBit_eq
    intro i
    rw [Nat.testBit_xor]
    conv => lhs; rw [show x = 2 ^ 4 * (x / 16) + x % 16 by omega, Nat.testBit_two_pow_mul_add _ (Nat.mod_lt _ (by omega))]
    rw [Nat.mul_comm, Nat.testBit_two_pow_mul]
    by_cases hi : i < 4
    · simp [hi, Nat.not_le.2 hi]
    · have : (x % 16).testBit i = false := Nat.testBit_lt_two_pow (Nat.lt_of_lt_of_le (Nat.mod_lt _ (by omega)) (show 2 ^ 4 ≤ 2 ^ i from Nat.pow_le_pow_right (by omega) (by omega)))
      simp [hi, this, Nat.not_lt.1 hi]
  conv => rhs; rw [e, its_xor, its_shift]
theorem its_eight (x : Nat) : its 4 (its 4 x) = its 8 x := (its_add 4 4 x).symm
end Go.Proofs.YtppmokkbepihhaaDoor
