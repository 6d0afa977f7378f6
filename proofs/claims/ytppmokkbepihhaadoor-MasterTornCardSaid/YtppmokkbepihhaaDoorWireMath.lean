/- Plain mathematics of layer wire: a number's bytes, the lowest first; what a writer and a reader become. No program. -/
namespace Go.Proofs.YtppmokkbepihhaaDoor
set_option maxRecDepth 10000

/-- The k lowest bytes of x, the lowest first. -/
def le : Nat → Nat → List Nat
  | _, 0 => []
  | x, k + 1 => x % 256 :: le (x / 256) k
/-- The number that bytes are, the lowest first. -/
def un : List Nat → Nat
  | [] => 0
  | b :: l => b + 256 * un l
theorem le_len : ∀ (k x : Nat), (le x k).length = k
  | 0, _ => rfl
  | k + 1, x => by simp [le, le_len k]
theorem le_lt : ∀ (k x y : Nat), y ∈ le x k → y < 256
  | 0, _, _, h => by cases h
  | k + 1, x, y, h => by
    simp only [le, List.mem_cons] at h
    rcases h with rfl | h
    · omega
    · exact le_lt k _ _ h
theorem un_le : ∀ (k x : Nat), un (le x k) = x % 256 ^ k
  | 0, x => by simp [le, un, Nat.mod_one]
  | k + 1, x => by
    rw [le, un, un_le k, Nat.pow_succ, Nat.mul_comm (256 ^ k) 256, Nat.mod_mul]
theorem le_un : ∀ (l : List Nat), (∀ y ∈ l, y < 256) → le (un l) l.length = l
  | [], _ => rfl
  | b :: l, h => by
    have hb : b < 256 := h b (List.mem_cons_self ..)
    have h1 : (b + 256 * un l) % 256 = b := by omega
    have h2 : (b + 256 * un l) / 256 = un l := by omega
    rw [List.length_cons, un, le, h1, h2, le_un l fun y hy => h y (List.mem_cons_of_mem _ hy)]
theorem un_lt : ∀ (l : List Nat), (∀ y ∈ l, y < 256) → un l < 256 ^ l.length
  | [], _ => by simp [un]
  | b :: l, h => by
    have hb : b < 256 := h b (List.mem_cons_self ..)
    have := un_lt l fun y hy => h y (List.mem_cons_of_mem _ hy)
    rw [List.length_cons, un, Nat.pow_succ]
    omega
theorem le_get : ∀ (k x j : Nat), j < k → (le x k).getD j 0 = x / 256 ^ j % 256
  | 0, _, j, h => by omega
  | k + 1, x, 0, _ => by simp [le]
  | k + 1, x, j + 1, h => by
    have := le_get k (x / 256) j (by omega)
    rw [le, List.getD_cons_succ, this, Nat.div_div_eq_div_mul, Nat.pow_succ, Nat.mul_comm 256]
theorem le_take : ∀ (k n x : Nat), k ≤ n → (le x n).take k = le x k
  | 0, _, _, _ => by simp [le]
  | k + 1, 0, _, h => by omega
  | k + 1, n + 1, x, h => by simp [le, le_take k n (x / 256) (by omega)]
theorem le_snoc : ∀ (k x : Nat), le x (k + 1) = le x k ++ [x / 256 ^ k % 256]
  | 0, x => by simp [le]
  | k + 1, x => by
    rw [le, le_snoc k (x / 256), le, Nat.div_div_eq_div_mul, Nat.pow_succ, Nat.mul_comm (256 ^ k)]
    rfl
theorem un_snoc : ∀ (l : List Nat) (b : Nat), un (l ++ [b]) = un l + 256 ^ l.length * b
  | [], b => by simp [un]
  | a :: l, b => by
    rw [List.cons_append, un, un_snoc l b, un, List.length_cons, Nat.pow_succ, Nat.mul_comm (256 ^ l.length) 256, Nat.mul_assoc, Nat.mul_add]
    omega
theorem un_take_snoc (l : List Nat) (j : Nat) (h : j < l.length) : un (l.take (j + 1)) = un (l.take j) + 256 ^ j * l.getD j 0 := by
  rw [List.take_succ_eq_append_getElem h, un_snoc, List.length_take, Nat.min_eq_left (by omega), List.getD, List.getElem?_eq_getElem h]
  rfl
theorem pow_256 (j : Nat) : 256 ^ j = 2 ^ (8 * j) := by rw [Nat.pow_mul]
theorem le_eq_zero (x : Nat) : le x 0 = [] := rfl

/-- A state: what was wrong first (0: nothing), and bytes: those that are written, or those that are left. -/
abbrev St := Int × List Nat
/-- Something is wrong. -/
def bad (e : Int) (S : St) : St := if S.1 = 0 then (e, S.2) else S
/-- Bytes are written as they are. -/
def rawW (most : Int) (S : St) (M : List Nat) : St := if S.1 = 0 then if most < (S.2.length : Int) + (M.length : Int) then (7, S.2) else (0, S.2 ++ M) else S
/-- A number is written. -/
def numW (most : Int) (S : St) (x : Nat) (size : Int) : St := if 1 ≤ size ∧ size ≤ 8 ∧ x < 256 ^ size.toNat then rawW most S (le x size.toNat) else bad 1 S
/-- Bytes are written with their length. -/
def bytesW (most : Int) (S : St) (M : List Nat) : St := if 65535 < M.length then bad 7 S else rawW most S (le M.length 2 ++ M)

/-- The next n bytes. -/
def takeR (S : St) (n : Nat) : St × List Nat := if S.1 = 0 then if S.2.length < n then ((6, S.2), []) else ((0, S.2.drop n), S.2.take n) else (S, [])
/-- A number is read. -/
def numR (S : St) (size : Int) : St × Nat := if 1 ≤ size ∧ size ≤ 8 then ((takeR S size.toNat).1, un (takeR S size.toNat).2) else (bad 1 S, 0)
/-- A truth is read. -/
def boolR (S : St) : St × Bool := if 1 < (numR S 1).2 then (bad 8 (numR S 1).1, false) else ((numR S 1).1, (numR S 1).2 == 1)
/-- Bytes are read with their length. -/
def bytesR (S : St) (most : Int) : St × List Nat := takeR (if most < ((numR S 2).2 : Int) then bad 7 (numR S 2).1 else (numR S 2).1) (numR S 2).2
/-- How many bytes are left. -/
def leftR (S : St) : Nat := if S.1 = 0 then S.2.length else 0
/-- What is wrong in the end. -/
def endR (S : St) : Int := if S.1 = 0 ∧ 0 < S.2.length then 8 else S.1
end Go.Proofs.YtppmokkbepihhaaDoor
