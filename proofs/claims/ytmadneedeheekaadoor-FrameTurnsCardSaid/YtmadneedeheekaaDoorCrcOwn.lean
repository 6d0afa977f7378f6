/- Rows of bytes that the call owns. -/
import Derived.Test.YtmadneedeheekaaDoorCrcLaid
import Derived.Test.YtmadneedeheekaaDoorBase
import Derived.Test.YtmadneedeheekaaDoorCrcWorks
import Derived.Laws.AppendOwn
import Derived.Deep.Draws
import Derived.Laws.AppendOwnNone
namespace Go.Proofs.YtmadneedeheekaaDoor
open Go.RowKit Go.ChangeShapes Go.WideShapes
set_option linter.unusedVariables false

/-- n bytes as values. -/
def vals (f : Nat → Nat) (n : Nat) : List Value := (List.range n).map fun j => .int .u8 ((f j : Nat) : Int)
theorem vals_len (f : Nat → Nat) (n : Nat) : (vals f n).length = n := by simp [vals]
theorem vals_at (f : Nat → Nat) (n j : Nat) (h : j < n) : (vals f n)[j]? = some (.int .u8 ((f j : Nat) : Int)) := by simp [vals, h]
theorem vals_congr (f g : Nat → Nat) (n : Nat) (h : ∀ j, j < n → f j = g j) : vals f n = vals g n := by
  unfold vals
  refine List.map_congr_left fun j hj => ?_
  rw [h j (by simpa using hj)]
theorem vals_one (f : Nat → Nat) (n : Nat) : ∀ u ∈ vals f n, u.oneCell' = true := by
  intro u hu
  obtain ⟨x, _, rfl⟩ := List.mem_map.1 hu
  rfl
/-- Bytes behind bytes. -/
def behind (f : Nat → Nat) (n : Nat) (g : Nat → Nat) : Nat → Nat := fun j => if j < n then f j else g (j - n)
theorem vals_behind (f : Nat → Nat) (n : Nat) (g : Nat → Nat) (m : Nat) : vals f n ++ vals g m = vals (behind f n g) (n + m) := by
  apply List.ext_getElem?
  intro i
  by_cases h : i < n
  · rw [List.getElem?_append_left (by rw [vals_len]; exact h), vals_at f n i h, vals_at _ _ i (by omega)]; simp [behind, h]
  · rw [List.getElem?_append_right (by rw [vals_len]; omega), vals_len]
    by_cases h2 : i - n < m
    · rw [vals_at g m _ h2, vals_at _ _ i (by omega)]; simp [behind, h]
    · rw [List.getElem?_eq_none (by rw [vals_len]; omega), List.getElem?_eq_none (by rw [vals_len]; omega)]
theorem behind_old (f g : Nat → Nat) (n j : Nat) (h : j < n) : behind f n g j = f j := if_pos h
theorem behind_new (f g : Nat → Nat) (n j : Nat) : behind f n g (n + j) = g j := by
  unfold behind
  rw [if_neg (by omega), Nat.add_sub_cancel_left]
theorem behind_lt (f : Nat → Nat) (n : Nat) (g : Nat → Nat) (m : Nat) (hf : ∀ j, j < n → f j < 256) (hg : ∀ j, j < m → g j < 256) : ∀ j, j < n + m → behind f n g j < 256 := by
  intro j hj
  unfold behind
  split
  · exact hf j (by assumption)
  · exact hg _ (by omega)
/-- A row that the call owns is a row of bytes. -/
theorem bytes_of_owns {w : World} {base n : Nat} {v : Value} {f : Nat → Nat} (h : w.ownsRow base 5 1 v n (vals f n)) (hf : ∀ j, j < n → f j < 256) :
    ∃ p cap, v = .slice p n cap ∧ n ≤ cap ∧ cap ≤ maxLen ∧ Bytes w p n f := by
  rcases h.2 with ⟨hv, h0⟩ | ⟨g, cap, cur, hv, hg, hh, h1, h2, _⟩
  · subst h0; exact ⟨none, 0, hv, Nat.le_refl _, Nat.zero_le _, fun j hj => by omega, fun h => by omega⟩
  · subst hv
    refine ⟨some ⟨g, 0, none⟩, cap, rfl, h1, h2, hf, fun h0 => ⟨g, 0, rfl, ?_, fun j hj => ?_⟩⟩
    · exact World.block_lt_of_cell? _ _ (show w.cell? ⟨g, 0, none⟩ = some (.int .u8 ((f 0 : Nat) : Int)) by rw [h.cellAt 0 (by omega)]; exact vals_at f n 0 h0)
    · rw [Nat.zero_add, h.cellAt j (by omega)]; exact vals_at f n j hj
/-- append of bytes onto a row of bytes that the call owns. -/
theorem wpList_append_bytes {w : World} {ops : Array Oper} {rest : List Oper} {o : Oper} {a : Act} {Q : Exit → Act → World → Prop} (hgd : o.guard = none) (s x : Operand)
    (ho : o.op = .call { callee := .builtin .append, args := #[s, x], argTypes := #[22, 22] }) (base : Nat) (W : World) (hb : Below base W w) (hbase : base ≤ w.heap.size)
    (v : Value) (n : Nat) (f : Nat → Nat) (hs : a.eval s = v) (hown : w.ownsRow base 5 1 v n (vals f n))
    (p : Option Addr) (m c : Nat) (g : Nat → Nat) (hx : a.eval x = .slice p m c) (hB : Bytes w p m g) (hnil : p = none → m = 0 ∧ c = 0) (hbig : n + m ≤ 1000000)
    (h : ∀ v' w', w'.ownsRow base 5 1 v' (n + m) (vals (behind f n g) (n + m)) → Below base W w' → wpList Tryd.prog ops Q rest (a.put o.dst v') w') : wpList Tryd.prog ops Q (o :: rest) a w := by
  obtain ⟨i, hi, hz0, hz1, hz2⟩ := info_parts info_u8
  cases p with
  | none =>
    obtain ⟨rfl, rfl⟩ := hnil rfl
    refine wpList_append_own_none hgd s x _ ho base 5 i 1 Tryd.underlying22 hi v n _ hs hown hx (h v w ?_ hb)
    rw [← vals_behind, show vals g 0 = [] from rfl, List.append_nil]; exact hown
  | some ad =>
    refine wpList_append_own _ hgd s x _ ho base 5 i (.int .u8 0) 1 1 Tryd.underlying22 hi hz0 hz1 hz2 rfl (by decide) v n _ hs hown ad m c (vals g m) hx (by rw [vals_len]; omega) ?_ (vals_one g m) (by unfold maxLen; omega) (by omega) hbase ?_
    · intro j u hu
      have hj : j < m := by
        rcases Nat.lt_or_ge j m with h | h
        · exact h
        · rw [List.getElem?_eq_none (by rw [vals_len]; exact h)] at hu; cases hu
      obtain ⟨b, off, hp, _, hc⟩ := hB.2 (by omega)
      cases hp
      rw [Go.WideShapes.add_plain, hc j hj, ← hu, vals_at g m j hj]
    · intro v' w' h1 h2 _
      refine h v' w' ?_ (hb.grown h2 hbase fun k hk => (hown.lt k hk).1)
      rw [← vals_behind]; exact h1
theorem vals_more (f : Nat → Nat) (n : Nat) : vals f (n + 1) = vals f n ++ [.int .u8 ((f n : Nat) : Int)] := by simp [vals, List.range_succ]
/-- append of one byte onto a row of bytes that the call owns, as one step of a region that draws its order. -/
theorem step_append_byte {w : World} {ops : Array Oper} {o : Oper} {a : Act} {K : Act → World → Prop} {Q : Exit → Act → World → Prop} {E : Prop} (hgd : o.guard = none) (s x : Operand)
    (ho : o.op = .call { callee := .builtin .append, args := #[s, x], argTypes := #[22, 22] }) (base : Nat) (W : World) (hb : Below base W w) (hbase : base ≤ w.heap.size)
    (v : Value) (n : Nat) (f : Nat → Nat) (hs : a.eval s = v) (hown : w.ownsRow base 5 1 v n (vals f n))
    (ad : Addr) (c : Nat) (hx : a.eval x = .slice (some ad) 1 c) (hy : w.cell? ad = some (.int .u8 ((f n : Nat) : Int))) (hbig : n + 1 ≤ 1000000)
    (h : ∀ v' w', w'.ownsRow base 5 1 v' (n + 1) (vals f (n + 1)) → Below base W w' → K (a.put o.dst v') w') :
    if Region.wanted o (yielded ops a.tmps) = true then Oper.wp Tryd.prog o a w K Q else E := by
  obtain ⟨i, hi, hz0, hz1, hz2⟩ := info_parts info_u8
  have hw : Region.wanted o (yielded ops a.tmps) = true := by simp [Region.wanted, hgd]
  rw [if_pos hw]
  refine wp_append_own w s x _ ho base 5 i (.int .u8 0) 1 1 Tryd.underlying22 hi hz0 hz1 hz2 rfl (by decide) v n _ hs hown ad 1 c [.int .u8 ((f n : Nat) : Int)] hx rfl ?_ ?_ (by unfold maxLen; omega) (by omega) hbase ?_
  · intro j u hu
    match j, hu with
    | 0, hu => simp only [List.getElem?_cons_zero, Option.some.injEq] at hu; subst hu; exact hy
  · intro u hu; simp at hu; subst hu; rfl
  · intro v' w' h1 h2 _
    rw [← vals_more] at h1
    exact h v' w' h1 (hb.grown h2 hbase fun k hk => (hown.lt k hk).1)
theorem sum_still (p : Option Addr) (n cap : Nat) (f : Nat → Nat) (w : World) (hB : Bytes w p n f) (hbig : n ≤ 1000000) (hT : Tab w) :
    Calls Tryd.prog 19 #[.slice p n cap] w fun e w' => e = .returned (.int .u32 ((sumF f n : Nat) : Int)) ∧ w' = w :=
  (sum_any p n cap f w hB hbig hT).mono fun e w' h => ⟨h.1, h.2.symm⟩
theorem vals_set (f g : Nat → Nat) (n d : Nat) (ho : ∀ j, j ≠ d → g j = f j) : (vals f n).set d (.int .u8 ((g d : Nat) : Int)) = vals g n := by
  apply List.ext_getElem?
  intro i
  by_cases h : i < n
  · rw [List.getElem?_set, vals_at g n i h]
    by_cases e : d = i
    · subst e; rw [if_pos rfl, if_pos (by rw [vals_len]; exact h)]
    · rw [if_neg e, vals_at f n i h, ho i (fun e' => e e'.symm)]
  · rw [List.getElem?_eq_none (by rw [List.length_set, vals_len]; omega), List.getElem?_eq_none (by rw [vals_len]; omega)]
/-- Bytes of which one bit is turned. -/
def turned (f : Nat → Nat) (d s : Nat) : Nat → Nat := fun j => if j = d then f d ^^^ 2 ^ s else f j
theorem turned_at (f : Nat → Nat) (d s : Nat) : turned f d s d = f d ^^^ 2 ^ s := if_pos rfl
theorem turned_other (f : Nat → Nat) (d s j : Nat) (h : j ≠ d) : turned f d s j = f j := if_neg h
/-- One more bit is turned. -/
theorem burst_more (f h : Nat → Nat) (n q i P d s t : Nat) (hH : (∀ j, j < n → h j < 256) ∧ numF h n = numF f n ^^^ P * 2 ^ q ∧ P < 2 ^ i ∧ (t = 0 ↔ P = 0)) (hd : d < n) (hs : s < 8) (hk : 8 * d + s = q + i) :
    (∀ j, j < n → turned h d s j < 256) ∧ numF (turned h d s) n = numF f n ^^^ (P ^^^ 2 ^ i) * 2 ^ q ∧ P ^^^ 2 ^ i < 2 ^ (i + 1) ∧ (t + 1 = 0 ↔ P ^^^ 2 ^ i = 0) := by
  obtain ⟨h1, h2, h3, h4⟩ := hH
  refine ⟨fun j hj => ?_, ?_, ?_, ?_⟩
  · by_cases e : j = d
    · subst e; rw [turned_at]; exact Nat.xor_lt_two_pow (n := 8) (h1 j hj) (Nat.pow_lt_pow_right (by omega) hs)
    · rw [turned_other _ _ _ _ e]; exact h1 j hj
  · rw [numF_turn h (turned h d s) d s (turned_at h d s) n hd fun j _ e => turned_other h d s j e, h2, xor_mul_pow, Nat.xor_assoc, hk, Nat.pow_add, Nat.mul_comm (2 ^ q)]
  · exact Nat.xor_lt_two_pow (Nat.lt_of_lt_of_le h3 (Nat.pow_le_pow_right (by omega) (by omega))) (Nat.pow_lt_pow_right (by omega) (by omega))
  · constructor
    · intro e; omega
    · intro e; have := of_xor _ _ e; omega
theorem xor_bit (x s : Nat) (hx : x < 256) (hs : s < 8) : bits .xor .u8 (x : Int) (2 ^ s % 256) = ((x ^^^ 2 ^ s : Nat) : Int) := by
  have h2 : 2 ^ s < 2 ^ 8 := Nat.pow_lt_pow_right (by omega) hs
  replace h2 : 2 ^ s < 256 := h2
  rw [show (2 : Int) ^ s = ((2 ^ s : Nat) : Int) by simp]
  generalize 2 ^ s = y at *
  rw [show (y : Int) % 256 = (y : Int) by omega]
  exact u8_xor_nat x y hx h2
/-- The sums differ just where a bit is turned. -/
theorem sumF_burst (f h : Nat → Nat) (n q P t : Nat) (hf : ∀ j, j < n → f j < 256) (hq : q ≤ 8 * n) (hH : (∀ j, j < n → h j < 256) ∧ numF h n = numF f n ^^^ P * 2 ^ q ∧ P < 2 ^ 32 ∧ (t = 0 ↔ P = 0)) : sumF h n = sumF f n ↔ t = 0 := by
  obtain ⟨h1, h2, h3, h4⟩ := hH
  rw [h4, ← runF_burst 4294967295 f h n q P hq h3 h2]
  have a := runF_lt 4294967295 f (by omega) n hf
  have b := runF_lt 4294967295 h (by omega) n h1
  unfold sumF
  omega
/-- The least of a length and a bound, as the walk spells it. -/
theorem least_crc (len B : Nat) : ∃ k : Nat, (if (B : Int) < (len : Int) then (B : Int) else (len : Int)) = (k : Int) ∧ k ≤ len ∧ k ≤ B := by
  by_cases h : (B : Int) < (len : Int)
  · exact ⟨B, by rw [if_pos h], by omega, Nat.le_refl _⟩
  · exact ⟨len, by rw [if_neg h], Nat.le_refl _, by omega⟩
theorem own_empty (w : World) (e : TypeId) (f : Nat → Nat) : (w.alloc (.cells #[] e)).ownsRow w.heap.size e 1 (.slice (some ⟨w.heap.size, 0, none⟩) 0 0) 0 (vals f 0) :=
  World.ownsRow_lit w #[] 0 (Nat.le_refl _) (Nat.zero_le _) rfl
theorem behind_none (f g : Nat → Nat) (m : Nat) : vals (behind f 0 g) m = vals g m := vals_congr _ _ m fun j _ => by simp [behind]
end Go.Proofs.YtmadneedeheekaaDoor
