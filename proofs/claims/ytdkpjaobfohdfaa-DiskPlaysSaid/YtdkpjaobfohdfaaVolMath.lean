/- Plain mathematics of layer vol: blocks one behind another; a block that is torn. -/
import Derived.Laws.CopyOwn
namespace Go.Proofs.Ytdkpjaobfohdfaa
open Go
set_option linter.unusedVariables false
set_option maxRecDepth 10000
set_option linter.unusedSimpArgs false

theorem splice_all {α : Type} (L M : List α) (h : M.length = L.length) : splice L 0 M = M := by simp [splice, h]
/-- A block behind a Tear of b up to t. -/
def tearL (old b : List Int) (t : Nat) : List Int := b.take t ++ (List.replicate (t - b.length) 0 ++ old.drop t)
theorem tear_len (old b : List Int) (t : Nat) (h : t ≤ old.length) : (tearL old b t).length = old.length := by
  simp only [tearL, List.length_append, List.length_take, List.length_replicate, List.length_drop]
  omega
theorem tear_at (old b : List Int) (t k : Nat) (ht : t ≤ old.length) (hk : k < old.length) : (tearL old b t).getD k 0 = if k < t then (if k < b.length then b.getD k 0 else 0) else old.getD k 0 := by
  unfold tearL
  rw [List.getD, List.getElem?_append]
  by_cases h1 : k < t
  · rw [if_pos h1]
    by_cases h2 : k < b.length
    · rw [if_pos h2, if_pos (by rw [List.length_take]; omega), List.getElem?_take, if_pos h1, List.getD]
    · rw [if_neg h2, if_neg (by rw [List.length_take]; omega), List.length_take, List.getElem?_append_left (by rw [List.length_replicate]; omega), List.getElem?_replicate, if_pos (by omega)]
      rfl
  · rw [if_neg h1, if_neg (by rw [List.length_take]; omega), List.length_take, List.getElem?_append_right (by rw [List.length_replicate]; omega), List.length_replicate, List.getElem?_drop, List.getD]
    rw [show t + (k - min t b.length - (t - b.length)) = k by omega]
/-- A whole block that is put does not hang on what was there. -/
theorem tear_whole (old old' b : List Int) (h : old.length = old'.length) (hb : b.length ≤ old.length) : tearL old b old.length = tearL old' b old'.length := by
  unfold tearL
  rw [h, List.drop_eq_nil_of_le (by omega), List.drop_eq_nil_of_le (Nat.le_refl _)]
theorem len_flatten (s : Nat) : ∀ (V : List (List Int)), (∀ x ∈ V, x.length = s) → V.flatten.length = V.length * s
  | [], _ => by simp
  | x :: V, h => by
    rw [List.flatten_cons, List.length_append, len_flatten s V (fun y hy => h y (List.mem_cons_of_mem _ hy)), h x List.mem_cons_self, List.length_cons, Nat.add_mul]
    omega
/-- One block out of all. -/
theorem block_flatten (s : Nat) : ∀ (V : List (List Int)) (i : Nat), (∀ x ∈ V, x.length = s) → i < V.length → (V.flatten.drop (i * s)).take s = V.getD i []
  | x :: V, 0, h, _ => by
    have hx := h x List.mem_cons_self
    simp [← hx]
  | x :: V, i + 1, h, hi => by
    have hx := h x List.mem_cons_self
    rw [List.flatten_cons, Nat.add_mul, List.drop_append, List.drop_eq_nil_of_le (by omega), List.nil_append]
    rw [show i * s + 1 * s - x.length = i * s by omega, block_flatten s V i (fun y hy => h y (List.mem_cons_of_mem _ hy)) (by simpa using hi)]
    simp
/-- One block, of which some bytes are put. -/
theorem splice_flatten (s : Nat) : ∀ (V : List (List Int)) (i k : Nat) (cs : List Int), (∀ x ∈ V, x.length = s) → i < V.length → k + cs.length ≤ s → splice V.flatten (i * s + k) cs = (V.set i (splice (V.getD i []) k cs)).flatten
  | x :: V, 0, k, cs, h, _, hk => by
    have hx := h x List.mem_cons_self
    simp only [Nat.zero_mul, Nat.zero_add, List.set_cons_zero, List.flatten_cons, List.getD_cons_zero, splice]
    rw [List.take_append_of_le_length (by omega), List.drop_append_of_le_length (by omega)]
    simp
  | x :: V, i + 1, k, cs, h, hi, hk => by
    have hx := h x List.mem_cons_self
    have ih := splice_flatten s V i k cs (fun y hy => h y (List.mem_cons_of_mem _ hy)) (by simpa using hi) hk
    simp only [List.set_cons_succ, List.flatten_cons, List.getD_cons_succ]
    rw [← ih]
    simp only [splice]
    rw [List.take_append, List.take_of_length_le (by rw [Nat.add_mul]; omega), List.drop_append, List.drop_eq_nil_of_le (by rw [Nat.add_mul]; omega)]
    rw [show (i + 1) * s + k - x.length = i * s + k by rw [Nat.add_mul]; omega, show (i + 1) * s + k + cs.length - x.length = i * s + k + cs.length by rw [Nat.add_mul]; omega]
    simp
/-- The copy and the clear of a Tear. -/
theorem tear_splice (old b : List Int) (t : Nat) (ht : t ≤ old.length) : splice (splice old 0 (b.take (Nat.min b.length t))) (Nat.min b.length t) (List.replicate (t - Nat.min b.length t) 0) = tearL old b t := by
  unfold splice tearL
  have hm : Nat.min b.length t = min b.length t := rfl
  have hl : (b.take (Nat.min b.length t)).length = Nat.min b.length t := by rw [List.length_take, hm]; omega
  have h1 : b.take (Nat.min b.length t) = b.take t := by
    rw [hm]
    rcases Nat.le_total b.length t with h | h
    · rw [Nat.min_eq_left h, List.take_of_length_le (Nat.le_refl _), List.take_of_length_le h]
    · rw [Nat.min_eq_right h]
  rw [List.take_zero, List.nil_append, Nat.zero_add, List.take_append_of_le_length (by rw [hl]; exact Nat.le_refl _), List.take_of_length_le (by rw [hl]; exact Nat.le_refl _), List.length_replicate, List.drop_append, List.drop_eq_nil_of_le (by rw [hl]; omega), List.nil_append, hl, List.drop_drop, h1]
  have h2 : t - Nat.min b.length t = t - b.length := by rw [hm]; omega
  rw [h2, hm]
  congr 3
  omega
theorem mem_set_len {s : Nat} {V : List (List Int)} {i : Nat} {x : List Int} (h : ∀ y ∈ V, y.length = s) (hx : x.length = s) : ∀ y ∈ V.set i x, y.length = s := by
  intro y hy
  rcases List.mem_or_eq_of_mem_set hy with h' | rfl
  · exact h y h'
  · exact hx
theorem getD_len {s : Nat} {V : List (List Int)} (h : ∀ y ∈ V, y.length = s) {i : Nat} (hi : i < V.length) : (V.getD i []).length = s := by
  rw [List.getD, List.getElem?_eq_getElem hi]
  exact h _ (List.getElem_mem hi)
theorem tear_flat (V : List (List Int)) (i s : Nat) (L : List Int) (k0 t : Nat) (h : ∀ y ∈ V, y.length = s) (hi : i < V.length) (ht : t ≤ s) (hk : Nat.min L.length t = k0) :
    splice (splice V.flatten (i * s) (L.take k0)) (i * s + k0) (List.replicate (t - k0) 0) = (V.set i (tearL (V.getD i []) L t)).flatten := by
  have hl := getD_len h hi
  have hm : Nat.min L.length t = min L.length t := rfl
  have hk' : (L.take k0).length = k0 := by rw [List.length_take]; omega
  have e1 := splice_flatten s V i 0 (L.take k0) h hi (by rw [hk']; omega)
  rw [Nat.add_zero] at e1
  have hl2 : (splice (V.getD i []) 0 (L.take k0)).length = s := by rw [length_splice _ _ _ (by rw [hk', hl]; omega)]; exact hl
  have hset : (V.set i (splice (V.getD i []) 0 (L.take k0))).getD i [] = splice (V.getD i []) 0 (L.take k0) := by
    rw [List.getD, List.getElem?_set_self hi]
    rfl
  rw [e1, splice_flatten s _ i k0 _ (mem_set_len h hl2) (by rw [List.length_set]; exact hi) (by rw [List.length_replicate]; omega), hset, List.set_set]
  have e2 := tear_splice (V.getD i []) L t (by rw [hl]; exact ht)
  rw [hk] at e2
  rw [e2]
theorem getD_set {V : List (List Int)} {i j : Nat} {x : List Int} (hj : j < V.length) : (V.set i x).getD j [] = if i = j then x else V.getD j [] := by
  rw [List.getD, List.getElem?_set]
  split
  · rw [if_pos (by omega)]
    rfl
  · rfl
/-- Kept from 0 to hi. -/
def kp (x hi : Int) : Nat := (min (max x 0) hi).toNat
theorem kp_le (x hi : Int) (h : 0 ≤ hi) : (kp x hi : Int) ≤ hi := by unfold kp; omega
/-- The volume behind a Tear. -/
def tearV (s : Nat) (V : List (List Int)) (i : Int) (b : List Int) (t : Nat) : List (List Int) := if (0 ≤ i ∧ i < V.length) ∧ b.length ≤ s then V.set i.toNat (tearL (V.getD i.toNat []) b t) else V
def tearE (s : Nat) (V : List (List Int)) (i : Int) (b : List Int) : Int := if ¬ (0 ≤ i ∧ i < V.length) then 1 else if s < b.length then 7 else 0
theorem tearV_len (s : Nat) (V : List (List Int)) (i : Int) (b : List Int) (t : Nat) : (tearV s V i b t).length = V.length := by
  unfold tearV
  split <;> simp
theorem tearV_all {s : Nat} {V : List (List Int)} {i : Int} {b : List Int} {t : Nat} (h : ∀ y ∈ V, y.length = s) (ht : t ≤ s) : ∀ y ∈ tearV s V i b t, y.length = s := by
  unfold tearV
  split
  · rename_i hc
    have hl := getD_len h (i := i.toNat) (by omega)
    exact mem_set_len h (by rw [tear_len _ _ _ (by omega)]; exact hl)
  · exact h
end Go.Proofs.Ytdkpjaobfohdfaa
