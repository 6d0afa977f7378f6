/- What was written is read: the mathematics; a reader's calls beside an item in a box. -/
import Derived.Test.YtppmokkbepihhaaDoorWireFew
namespace Go.Proofs.YtppmokkbepihhaaDoor
open Go.RowKit Go.ChangeShapes Go.WideShapes
set_option linter.unusedVariables false
set_option maxRecDepth 10000

/-- An item's bytes, by the document; and what is wrong with it. -/
def told (it : Item) : List Nat × Int :=
  if it.k % 5 = 0 then (if 1 ≤ it.n ∧ it.n ≤ 8 ∧ it.x < 256 ^ it.n.toNat then (le it.x it.n.toNat, 0) else ([], 1))
  else if it.k % 5 = 1 then (le it.x 8, 0)
  else if it.k % 5 = 2 then ([bit (it.x % 2 == 1)], 0)
  else if it.k % 5 = 3 then (le it.L.length 2 ++ it.L, 0)
  else (it.L, 0)
theorem putW_told (most : Int) (S : St) (it : Item) (hx : it.x < 18446744073709551616) (hl : it.L.length ≤ 65535) : putW most S it = if (told it).2 = 0 then rawW most S (told it).1 else bad 1 S := by
  unfold putW told
  by_cases h0 : it.k % 5 = 0
  · rw [if_pos h0, if_pos h0]
    unfold numW
    split
    · rw [if_pos rfl]
    · rw [if_neg (by decide)]
  · rw [if_neg h0, if_neg h0]
    by_cases h1 : it.k % 5 = 1
    · rw [if_pos h1, if_pos h1, if_pos rfl]
      unfold numW
      rw [if_pos ⟨by omega, by omega, by exact hx⟩]
      rfl
    · rw [if_neg h1, if_neg h1]
      by_cases h2 : it.k % 5 = 2
      · rw [if_pos h2, if_pos h2, if_pos rfl]
      · rw [if_neg h2, if_neg h2]
        by_cases h3 : it.k % 5 = 3
        · rw [if_pos h3, if_pos h3, if_pos rfl]
          unfold bytesW
          rw [if_neg (by omega)]
        · rw [if_neg h3, if_neg h3, if_pos rfl]
/-- The bytes that an item leaves where those that are raw are left out. -/
def piece (it : Item) : List Nat := if it.k % 5 = 4 then [] else (told it).1
def cat (its : Nat → Item) : Nat → Nat → List Nat
  | _, 0 => []
  | j, n + 1 => piece (its j) ++ cat its (j + 1) n
theorem cat_snoc (its : Nat → Item) : ∀ (n j : Nat), cat its j (n + 1) = cat its j n ++ piece (its (j + n))
  | 0, j => by simp [cat]
  | n + 1, j => by
    rw [cat, cat_snoc its n (j + 1), cat, List.append_assoc, show j + 1 + n = j + (n + 1) by omega]
/-- What the writer is behind j items. -/
def WInv (its : Nat → Item) (j : Nat) (S : St) : Prop := S.2.length ≤ 20000 ∧ (S.1 = 0 → S.2 = cat its 0 j ∧ ∀ i, i < j → (its i).k % 5 ≠ 4 → (told (its i)).2 = 0)
theorem rawW_len2 (most : Nat) (S : St) (M : List Nat) (h : S.2.length ≤ most) : (rawW most S M).2.length ≤ most := by
  unfold rawW
  split
  · split
    · exact h
    · show (S.2 ++ M).length ≤ most
      rw [List.length_append]; omega
  · exact h
theorem rawW_zero (most : Int) (S : St) (M : List Nat) (h : (rawW most S M).1 = 0) : S.1 = 0 ∧ rawW most S M = (0, S.2 ++ M) := by
  unfold rawW at h ⊢
  split
  · rename_i h0
    rw [if_pos h0] at h
    split
    · rename_i h1
      rw [if_pos h1] at h
      replace h : (7 : Int) = 0 := h
      omega
    · exact ⟨h0, rfl⟩
  · rename_i h0
    rw [if_neg h0] at h
    exact absurd h h0
theorem winv_start (its : Nat → Item) : WInv its 0 (0, []) := ⟨by simp, fun _ => ⟨rfl, fun i hi => by omega⟩⟩
theorem winv_put (its : Nat → Item) (j : Nat) (S : St) (h : WInv its j S) (hx : (its j).x < 18446744073709551616) (hl : (its j).L.length ≤ 65535) (h4 : (its j).k % 5 ≠ 4) : WInv its (j + 1) (putW 20000 S (its j)) := by
  rw [putW_told 20000 S (its j) hx hl]
  by_cases h0 : (told (its j)).2 = 0
  · rw [if_pos h0]
    refine ⟨rawW_len2 20000 S _ h.1, fun hz => ?_⟩
    obtain ⟨a, b⟩ := rawW_zero 20000 S _ hz
    obtain ⟨c, d⟩ := h.2 a
    rw [b]
    refine ⟨?_, fun i hi hk => ?_⟩
    · show S.2 ++ _ = _
      rw [cat_snoc, c, Nat.zero_add, piece, if_neg h4]
    · by_cases e : i = j
      · subst e; exact h0
      · exact d i (by omega) hk
  · rw [if_neg h0]
    refine ⟨by rw [bad_two]; exact h.1, fun hz => absurd hz (bad_ok 1 S (by omega))⟩
theorem winv_skip (its : Nat → Item) (j : Nat) (S : St) (h : WInv its j S) (h4 : (its j).k % 5 = 4) : WInv its (j + 1) S := by
  refine ⟨h.1, fun hz => ?_⟩
  obtain ⟨c, d⟩ := h.2 hz
  refine ⟨?_, fun i hi hk => ?_⟩
  · rw [cat_snoc, Nat.zero_add, piece, if_pos h4, List.append_nil]; exact c
  · by_cases e : i = j
    · subst e; exact absurd h4 hk
    · exact d i (by omega) hk

theorem takeR_app (K M : List Nat) : takeR (0, K ++ M) K.length = ((0, M), K) := by
  unfold takeR
  rw [if_pos rfl, if_neg (by simp), List.drop_left, List.take_left]
theorem numR_le (x : Nat) (n : Nat) (M : List Nat) (h1 : 1 ≤ n) (h8 : n ≤ 8) (hx : x < 256 ^ n) : numR (0, le x n ++ M) n = ((0, M), x) := by
  unfold numR
  rw [if_pos (by omega), Int.toNat_natCast]
  have := takeR_app (le x n) M
  rw [le_len] at this
  rw [this]
  show ((0, M), un (le x n)) = _
  rw [un_le, Nat.mod_eq_of_lt hx]
theorem boolR_bit (b : Bool) (M : List Nat) : boolR (0, [bit b] ++ M) = ((0, M), b) := by
  have h : numR (0, [bit b] ++ M) 1 = ((0, M), bit b) := by
    cases b
    · exact numR_le 0 1 M (by omega) (by omega) (by omega)
    · exact numR_le 1 1 M (by omega) (by omega) (by omega)
  unfold boolR
  rw [h]
  cases b <;> rfl
theorem bytesR_le (L M : List Nat) (h : L.length ≤ 65535) : bytesR (0, le L.length 2 ++ L ++ M) (L.length : Int) = ((0, M), L) := by
  have hn : numR (0, le L.length 2 ++ (L ++ M)) 2 = ((0, L ++ M), L.length) := numR_le L.length 2 (L ++ M) (by omega) (by omega) (by omega)
  unfold bytesR
  rw [List.append_assoc, hn]
  show takeR (if ((L.length : Nat) : Int) < ((L.length : Nat) : Int) then _ else ((0, L ++ M) : St)) L.length = _
  rw [if_neg (by omega)]
  exact takeR_app L M

theorem Chg.cell {S : Nat → Prop} {w w' : World} (h : Chg S w w') {b : Nat} (o : Nat) (hlt : b < w.heap.size) (hs : ¬ S b) : w'.cell? ⟨b, o, none⟩ = w.cell? ⟨b, o, none⟩ := World.cell?_of_block (w := w) (a := ⟨b, o, none⟩) (h.block b hlt hs)
theorem RdOk.later {W w w' : World} {B : Nat} {S : St} (h : RdOk W w B S) (hc : Chg (fun _ => False) w w') : RdOk W w' B S := by
  obtain ⟨p, c, hr, hB, hp, hb⟩ := h
  exact ⟨p, c, hr.chg hc (fun h => h) (fun _ _ h => h), hB, hp, hc.below hb hb.size fun k hk => hk.elim⟩
theorem RdOk.lt {W w : World} {B : Nat} {S : St} (h : RdOk W w B S) : B < w.heap.size := by
  obtain ⟨p, c, hr, _⟩ := h
  exact hr.lt
theorem read0 (it : Item) (rest : List Nat) (hk : it.k % 5 = 0) (ht : (told it).2 = 0) : numR (0, piece it ++ rest) it.n = ((0, rest), it.x) := by
  have h4 : ¬ it.k % 5 = 4 := by omega
  have hc : 1 ≤ it.n ∧ it.n ≤ 8 ∧ it.x < 256 ^ it.n.toNat := by
    unfold told at ht
    rw [if_pos hk] at ht
    by_cases h : 1 ≤ it.n ∧ it.n ≤ 8 ∧ it.x < 256 ^ it.n.toNat
    · exact h
    · rw [if_neg h] at ht
      replace ht : (1 : Int) = 0 := ht
      omega
  unfold piece told
  rw [if_neg h4, if_pos hk, if_pos hc]
  have := numR_le it.x it.n.toNat rest (by omega) (by omega) hc.2.2
  rw [Int.toNat_of_nonneg (by omega)] at this
  exact this
theorem read1 (it : Item) (rest : List Nat) (hk : it.k % 5 = 1) (hx : it.x < 18446744073709551616) : numR (0, piece it ++ rest) 8 = ((0, rest), it.x) := by
  unfold piece told
  rw [if_neg (by omega), if_neg (by omega), if_pos hk]
  exact numR_le it.x 8 rest (by omega) (by omega) hx
theorem read2 (it : Item) (rest : List Nat) (hk : it.k % 5 = 2) : boolR (0, piece it ++ rest) = ((0, rest), it.x % 2 == 1) := by
  unfold piece told
  rw [if_neg (by omega), if_neg (by omega), if_neg (by omega), if_pos hk]
  exact boolR_bit _ rest
theorem read3 (it : Item) (rest : List Nat) (hk : it.k % 5 = 3) (hl : it.L.length ≤ 65535) : bytesR (0, piece it ++ rest) (it.L.length : Int) = ((0, rest), it.L) := by
  unfold piece told
  rw [if_neg (by omega), if_neg (by omega), if_neg (by omega), if_neg (by omega), if_pos hk]
  exact bytesR_le it.L rest hl
theorem read4 (it : Item) (rest : List Nat) (hk : it.k % 5 = 4) : piece it ++ rest = rest := by
  unfold piece
  rw [if_pos hk]
  rfl
theorem sgn_wrap2 (x : Nat) (hx : x < 18446744073709551616) : IntKind.i64.wrap ((x : Nat) : Int) = sgn x := by
  rw [IntKind.wrap_i64]; unfold sgn; split <;> omega
theorem x_odd (x : Nat) : ((x : Int) % 2 == 1) = (x % 2 == 1) := by rw [Bool.eq_iff_iff]; simp; omega
theorem x_odd2 (x : Nat) : ((x : Int).tmod 2 == 1) = (x % 2 == 1) := by
  rw [Int.tmod_eq_emod_of_nonneg (by omega)]; exact x_odd x
end Go.Proofs.YtppmokkbepihhaaDoor
