
/- Rows of bytes and the writer's and the reader's memory: what lies where, and what a call may change. -/
/- The smallest calls of layer wire: a fault noted, a size asked, bytes copied. -/
/- The reader of layer wire: what each call answers. -/
/- The writer of layer wire: New, Raw, Len, Done. -/
import Derived.Test.YtdcanppiiikjgaaGreatDoorRows
import Derived.Test.YtdcanppiiikjgaaGreatDoorGrBase
import Derived.WalkKit
import Derived.ProofKit
import Derived.Below
import Derived.Lib.Hide
import Derived.OpenShut
import Derived.OwnWalk
import Derived.ArgAppend
import Derived.Deep.Draws
import Derived.Deep.OwnRows
import Derived.Laws.AppendOwn
import Derived.Laws.AppendOwnNone
import Derived.WalkSpells
import Derived.RegionTactic
import Derived.Deep.QuietTactic
import Derived.BigQuiet
import Derived.LoopTactic
import Derived.IntWalk
/- Plain mathematics of layer wire: a number's bytes, the lowest first; what a writer and a reader become. No program. -/
namespace Go.Proofs.YtdcanppiiikjgaaGreatDoor
set_option maxRecDepth 10000

/-- The k lowest bytes of x, the lowest first. -/
def le : Nat → Nat → List Nat
  | _, 0 => []
  | x, k + 1 => x % 256 :: le (x / 256) k
/-- The number that bytes are, the lowest first. -/
def un : List Nat → Nat
  | [] => 0
  | b :: l => b + 256 * un l
theorem le_len : ∀ (k x : Nat), (le x k).length = k
  | 0, _ => rfl
  | k + 1, x => by simp [le, le_len k]
theorem le_lt : ∀ (k x y : Nat), y ∈ le x k → y < 256
  | 0, _, _, h => by cases h
  | k + 1, x, y, h => by
    simp only [le, List.mem_cons] at h
    rcases h with rfl | h
    · omega
    · exact le_lt k _ _ h
theorem un_le : ∀ (k x : Nat), un (le x k) = x % 256 ^ k
  | 0, x => by simp [le, un, Nat.mod_one]
  | k + 1, x => by
    rw [le, un, un_le k, Nat.pow_succ, Nat.mul_comm (256 ^ k) 256, Nat.mod_mul]
theorem le_un : ∀ (l : List Nat), (∀ y ∈ l, y < 256) → le (un l) l.length = l
  | [], _ => rfl
  | b :: l, h => by
    have hb : b < 256 := h b (List.mem_cons_self ..)
    have h1 : (b + 256 * un l) % 256 = b := by omega
    have h2 : (b + 256 * un l) / 256 = un l := by omega
    rw [List.length_cons, un, le, h1, h2, le_un l fun y hy => h y (List.mem_cons_of_mem _ hy)]
theorem un_lt : ∀ (l : List Nat), (∀ y ∈ l, y < 256) → un l < 256 ^ l.length
  | [], _ => by simp [un]
  | b :: l, h => by
    have hb : b < 256 := h b (List.mem_cons_self ..)
    have := un_lt l fun y hy => h y (List.mem_cons_of_mem _ hy)
    rw [List.length_cons, un, Nat.pow_succ]
    omega
theorem le_get : ∀ (k x j : Nat), j < k → (le x k).getD j 0 = x / 256 ^ j % 256
  | 0, _, j, h => by omega
  | k + 1, x, 0, _ => by simp [le]
  | k + 1, x, j + 1, h => by
    have := le_get k (x / 256) j (by omega)
    rw [le, List.getD_cons_succ, this, Nat.div_div_eq_div_mul, Nat.pow_succ, Nat.mul_comm 256]
theorem le_take : ∀ (k n x : Nat), k ≤ n → (le x n).take k = le x k
  | 0, _, _, _ => by simp [le]
  | k + 1, 0, _, h => by omega
  | k + 1, n + 1, x, h => by simp [le, le_take k n (x / 256) (by omega)]
theorem le_snoc : ∀ (k x : Nat), le x (k + 1) = le x k ++ [x / 256 ^ k % 256]
  | 0, x => by simp [le]
  | k + 1, x => by
    rw [le, le_snoc k (x / 256), le, Nat.div_div_eq_div_mul, Nat.pow_succ, Nat.mul_comm (256 ^ k)]
    rfl
theorem un_snoc : ∀ (l : List Nat) (b : Nat), un (l ++ [b]) = un l + 256 ^ l.length * b
  | [], b => by simp [un]
  | a :: l, b => by
    rw [List.cons_append, un, un_snoc l b, un, List.length_cons, Nat.pow_succ, Nat.mul_comm (256 ^ l.length) 256, Nat.mul_assoc, Nat.mul_add]
    omega
theorem un_take_snoc (l : List Nat) (j : Nat) (h : j < l.length) : un (l.take (j + 1)) = un (l.take j) + 256 ^ j * l.getD j 0 := by
  rw [List.take_succ_eq_append_getElem h, un_snoc, List.length_take, Nat.min_eq_left (by omega), List.getD, List.getElem?_eq_getElem h]
  rfl
theorem pow_256 (j : Nat) : 256 ^ j = 2 ^ (8 * j) := by rw [Nat.pow_mul]
theorem le_eq_zero (x : Nat) : le x 0 = [] := rfl

/-- A state: what was wrong first (0: nothing), and bytes: those that are written, or those that are left. -/
abbrev St := Int × List Nat
/-- Something is wrong. -/
def bad (e : Int) (S : St) : St := if S.1 = 0 then (e, S.2) else S
/-- Bytes are written as they are. -/
def rawW (most : Int) (S : St) (M : List Nat) : St := if S.1 = 0 then if most < (S.2.length : Int) + (M.length : Int) then (7, S.2) else (0, S.2 ++ M) else S
/-- A number is written. -/
def numW (most : Int) (S : St) (x : Nat) (size : Int) : St := if 1 ≤ size ∧ size ≤ 8 ∧ x < 256 ^ size.toNat then rawW most S (le x size.toNat) else bad 1 S
/-- Bytes are written with their length. -/
def bytesW (most : Int) (S : St) (M : List Nat) : St := if 65535 < M.length then bad 7 S else rawW most S (le M.length 2 ++ M)

/-- The next n bytes. -/
def takeR (S : St) (n : Nat) : St × List Nat := if S.1 = 0 then if S.2.length < n then ((6, S.2), []) else ((0, S.2.drop n), S.2.take n) else (S, [])
/-- A number is read. -/
def numR (S : St) (size : Int) : St × Nat := if 1 ≤ size ∧ size ≤ 8 then ((takeR S size.toNat).1, un (takeR S size.toNat).2) else (bad 1 S, 0)
/-- A truth is read. -/
def boolR (S : St) : St × Bool := if 1 < (numR S 1).2 then (bad 8 (numR S 1).1, false) else ((numR S 1).1, (numR S 1).2 == 1)
/-- Bytes are read with their length. -/
def bytesR (S : St) (most : Int) : St × List Nat := takeR (if most < ((numR S 2).2 : Int) then bad 7 (numR S 2).1 else (numR S 2).1) (numR S 2).2
/-- How many bytes are left. -/
def leftR (S : St) : Nat := if S.1 = 0 then S.2.length else 0
/-- What is wrong in the end. -/
def endR (S : St) : Int := if S.1 = 0 ∧ 0 < S.2.length then 8 else S.1
end Go.Proofs.YtdcanppiiikjgaaGreatDoor
namespace Go.Proofs.YtdcanppiiikjgaaGreatDoor
open Go.RowKit Go.ChangeShapes Go.WideShapes
set_option linter.unusedVariables false
set_option maxRecDepth 10000


/-- The address, the length and the capacity of a slice of bytes that holds L. -/
structure Sl (w : World) (p : Option Addr) (n c : Nat) (L : List Nat) : Prop where
  len : L.length = n
  cap : n ≤ c
  nil : p = none → c = 0
  lt : ∀ x ∈ L, x < 256
  cell : 0 < n → ∃ b off, p = some ⟨b, off, none⟩ ∧ ∀ j, j < n → w.cell? ⟨b, off + j, none⟩ = some (.int .u8 ((L.getD j 0 : Nat) : Int))
theorem getD_lt {L : List Nat} (h : ∀ x ∈ L, x < 256) (j : Nat) : L.getD j 0 < 256 := by
  rw [List.getD]
  by_cases hj : j < L.length
  · rw [List.getElem?_eq_getElem hj]; exact h _ (List.getElem_mem hj)
  · rw [List.getElem?_eq_none (by omega)]; simp
theorem Sl.blk {w : World} {p : Option Addr} {n c : Nat} {L : List Nat} (h : Sl w p n c L) (h0 : 0 < n) : ∃ b off, p = some ⟨b, off, none⟩ ∧ b < w.heap.size ∧ ∀ j, j < n → w.cell? ⟨b, off + j, none⟩ = some (.int .u8 ((L.getD j 0 : Nat) : Int)) := by
  obtain ⟨b, off, hp, hc⟩ := h.cell h0
  exact ⟨b, off, hp, World.block_lt_of_cell? _ _ (hc 0 h0), hc⟩
theorem Sl.keep {w w' : World} {p : Option Addr} {n c : Nat} {L : List Nat} (h : Sl w p n c L) (hb : ∀ a, p = some a → a.block < w.heap.size → w'.heap[a.block]? = w.heap[a.block]?) : Sl w' p n c L := by
  refine ⟨h.len, h.cap, h.nil, h.lt, fun h0 => ?_⟩
  obtain ⟨b, off, rfl, hlt, hc⟩ := h.blk h0
  exact ⟨b, off, rfl, fun j hj => by rw [World.cell?_of_block (w := w) (a := ⟨b, off + j, none⟩) (hb ⟨b, off, none⟩ rfl hlt)]; exact hc j hj⟩
theorem Sl.later {w w' : World} {p : Option Addr} {n c : Nat} {L : List Nat} (h : Sl w p n c L) (hb : Below w.heap.size w w') : Sl w' p n c L := h.keep fun a _ hlt => hb.block _ hlt
theorem Sl.none {w : World} : Sl w none 0 0 [] := ⟨rfl, Nat.le_refl _, fun _ => rfl, (fun x h => by cases h), fun h => by omega⟩
theorem Sl.take {w : World} {p : Option Addr} {n c : Nat} {L : List Nat} (h : Sl w p n c L) (k : Nat) (hk : k ≤ n) : Sl w p k c (L.take k) := by
  refine ⟨by rw [List.length_take, h.len]; omega, Nat.le_trans hk h.cap, h.nil, fun x hx => h.lt x (List.mem_of_mem_take hx), fun h0 => ?_⟩
  obtain ⟨b, off, hp, hc⟩ := h.cell (by omega)
  refine ⟨b, off, hp, fun j hj => ?_⟩
  rw [hc j (by omega), List.getD, List.getD, List.getElem?_take, if_pos hj]
theorem Sl.drop {w : World} {p : Option Addr} {n c : Nat} {L : List Nat} (h : Sl w p n c L) (k : Nat) (hk : k ≤ n) : Sl w (if c = k then p else p.map fun a => a.add k) (n - k) (c - k) (L.drop k) := by
  have hcap := h.cap
  refine ⟨by rw [List.length_drop, h.len], by omega, fun hn => ?_, fun x hx => h.lt x (List.mem_of_mem_drop hx), fun h0 => ?_⟩
  · split at hn
    · omega
    · rw [Option.map_eq_none_iff] at hn; have := h.nil hn; omega
  · obtain ⟨b, off, hp, hc⟩ := h.cell (by omega)
    subst hp
    rw [if_neg (by omega)]
    refine ⟨b, off + k, by rw [Option.map_some, Go.WideShapes.add_plain], fun j hj => ?_⟩
    rw [Nat.add_assoc, hc (k + j) (by omega), List.getD, List.getD, List.getElem?_drop]

/-- Bytes as values. -/
def vL (L : List Nat) : List Value := L.map fun x => .int .u8 ((x : Nat) : Int)
theorem vL_len (L : List Nat) : (vL L).length = L.length := by simp [vL]
theorem vL_at (L : List Nat) (j : Nat) (h : j < L.length) : (vL L)[j]? = some (.int .u8 ((L.getD j 0 : Nat) : Int)) := by simp [vL, List.getD, List.getElem?_eq_getElem h]
theorem vL_one (L : List Nat) : ∀ u ∈ vL L, u.oneCell' = true := by
  intro u hu
  obtain ⟨x, _, rfl⟩ := List.mem_map.1 hu
  rfl
theorem vL_append (L M : List Nat) : vL (L ++ M) = vL L ++ vL M := List.map_append ..
/-- A row of bytes that may be appended to. -/
structure Row (w : World) (v : Value) (n : Nat) (L : List Nat) : Prop where
  len : L.length = n
  lt : ∀ x ∈ L, x < 256
  own : w.ownsRow 0 5 1 v n (vL L)
theorem Row.bound {w : World} {v : Value} {n : Nat} {L : List Nat} (h : Row w v n L) : ∀ k, v.ownBlock = some k → k < w.heap.size := fun k hk => (h.own.lt k hk).2
theorem Row.keep {w w' : World} {v : Value} {n : Nat} {L : List Nat} (h : Row w v n L) (hb : ∀ k, v.ownBlock = some k → w'.heap[k]? = w.heap[k]?) : Row w' v n L := by
  refine ⟨h.len, h.lt, h.own.1, ?_⟩
  rcases h.own.2 with hn | ⟨g, cap, cur, rfl, h1, h2, h3⟩
  · exact .inl hn
  · exact .inr ⟨g, cap, cur, rfl, h1, by rw [hb g rfl]; exact h2, h3⟩
theorem Row.chg {S : Nat → Prop} {w w' : World} {v : Value} {n : Nat} {L : List Nat} (h : Row w v n L) (hc : Chg S w w') (hs : ∀ k, v.ownBlock = some k → ¬ S k) : Row w' v n L := h.keep fun k hk => hc.block k (h.bound k hk) (hs k hk)
theorem Row.nil (w : World) : Row w (.slice none 0 0) 0 [] := ⟨rfl, (fun x h => by cases h), World.ownsRow_nil _ _ _ _⟩
theorem Row.of_own {w : World} {B : Nat} {v : Value} {n : Nat} {L : List Nat} (h : w.ownsRow B 5 1 v n (vL L)) (hl : L.length = n) (hlt : ∀ x ∈ L, x < 256) : Row w v n L ∧ ∀ k, v.ownBlock = some k → B ≤ k := by
  refine ⟨⟨hl, hlt, h.1, ?_⟩, fun k hk => (h.lt k hk).1⟩
  rcases h.2 with hn | ⟨g, cap, cur, rfl, h1, h2⟩
  · exact .inl hn
  · exact .inr ⟨g, cap, cur, rfl, Nat.zero_le _, h2⟩
/-- A row as a slice. -/
theorem Row.sl {w : World} {v : Value} {n : Nat} {L : List Nat} (h : Row w v n L) : ∃ p c, v = .slice p n c ∧ c ≤ maxLen ∧ Sl w p n c L ∧ ∀ a, p = some a → v.ownBlock = some a.block := by
  rcases h.own.2 with ⟨rfl, rfl⟩ | ⟨g, cap, cur, rfl, _, h2, h3, h4, h5, h6⟩
  · have := h.len
    obtain rfl : L = [] := List.eq_nil_of_length_eq_zero this
    exact ⟨_, _, rfl, Nat.zero_le _, Sl.none, fun a ha => by cases ha⟩
  · refine ⟨_, _, rfl, h4, ⟨h.len, h3, (fun hn => by cases hn), h.lt, fun h0 => ⟨g, 0, rfl, fun j hj => ?_⟩⟩, fun a ha => by cases ha; rfl⟩
    rw [Nat.zero_add, h.own.cellAt j (by omega), vL_at _ _ (by rw [h.len]; exact hj)]
/-- append of bytes onto a row. -/
theorem wpList_append_row {w : World} {ops : Array Oper} {rest : List Oper} {o : Oper} {a : Act} {Q : Exit → Act → World → Prop} (hgd : o.guard = none) (s x : Operand)
    (ho : o.op = .call { callee := .builtin .append, args := #[s, x], argTypes := #[36, 36] })
    (v : Value) (n : Nat) (L : List Nat) (hs : a.eval s = v) (hr : Row w v n L)
    (p : Option Addr) (m c : Nat) (M : List Nat) (hx : a.eval x = .slice p m c) (hm : Sl w p m c M) (hbig : n + m ≤ 1000000)
    (h : ∀ v' w', Row w' v' (n + m) (L ++ M) → Chg (fun k => v.ownBlock = some k) w w' → (∀ k, v'.ownBlock = some k → v.ownBlock = some k ∨ w.heap.size ≤ k) → wpList Tryz.prog ops Q rest (a.put o.dst v') w') : wpList Tryz.prog ops Q (o :: rest) a w := by
  obtain ⟨i, hi, hz0, hz1, hz2⟩ := info_parts info_u8
  have hlen : (L ++ M).length = n + m := by rw [List.length_append, hr.len, hm.len]
  have hlt : ∀ x ∈ L ++ M, x < 256 := fun x hx => by
    rcases List.mem_append.1 hx with hx | hx
    · exact hr.lt x hx
    · exact hm.lt x hx
  have hsame : m = 0 → p = none ∨ True → M = [] := fun h0 _ => List.eq_nil_of_length_eq_zero (by rw [hm.len]; exact h0)
  cases p with
  | none =>
    obtain rfl := hm.nil rfl
    obtain rfl : m = 0 := Nat.le_zero.1 hm.cap
    obtain rfl := hsame rfl (.inr trivial)
    refine wpList_append_own_none hgd s x _ ho 0 5 i 1 Tryz.underlying36 hi v n _ hs hr.own hx (h v w ?_ (Chg.refl _ _) fun k hk => .inl hk)
    rw [List.append_nil, Nat.add_zero]; exact hr
  | some ad =>
    have hnews : ∀ j u, (vL M)[j]? = some u → w.cell? (ad.add j) = some u := by
      intro j u hu
      have hj : j < m := by
        rcases Nat.lt_or_ge j m with h | h
        · exact h
        · rw [List.getElem?_eq_none (by rw [vL_len, hm.len]; exact h)] at hu; cases hu
      obtain ⟨b, off, hp, hc⟩ := hm.cell (by omega)
      cases hp
      rw [Go.WideShapes.add_plain, hc j hj, ← hu, vL_at M j (by rw [hm.len]; exact hj)]
    have hml : (vL M).length = m * 1 := by rw [vL_len, hm.len, Nat.mul_one]
    have hgrown : ∀ v' w', w'.ownsRow w.heap.size 5 1 v' (n + m) (vL L ++ vL M) → w.grownBy w' none → wpList Tryz.prog ops Q rest (a.put o.dst v') w' := by
      intro v' w' h1 h2
      rw [← vL_append] at h1
      obtain ⟨hr', hn'⟩ := Row.of_own h1 hlen hlt
      exact h v' w' hr' ((Chg.of_grown h2).mono fun k _ h => by cases h) fun k hk => .inr (hn' k hk)
    have hvl : (vL L).length = n * 1 := by rw [vL_len, hr.len, Nat.mul_one]
    rcases hr.own.2 with ⟨rfl, rfl⟩ | ⟨g, cap, cur, rfl, hb, hg, h1, h2, h3, h4⟩
    · by_cases h0 : m = 0
      · subst h0
        obtain rfl := hsame rfl (.inr trivial)
        have hL : L = [] := List.eq_nil_of_length_eq_zero hr.len
        subst hL
        refine wpList_append_own (base := w.heap.size) _ hgd s x _ ho 5 i (.int .u8 0) 1 1 Tryz.underlying36 hi hz0 hz1 hz2 rfl (by decide) (.slice none 0 0) 0 [] hs (World.ownsRow_nil _ _ _ _) ad 0 c [] hx rfl (fun j u hu => by simp at hu) (fun u hu => by cases hu) (by unfold maxLen; omega) (by omega) (Nat.le_refl _) ?_
        intro v' w' h1 h2 _
        exact hgrown v' w' h1 h2
      · exact wpList_append_grows w hgd s x _ ho 5 i (.int .u8 0) 1 1 Tryz.underlying36 hi hz0 hz1 hz2 rfl (by decide) none 0 0 (vL L) hs (fun _ => ⟨rfl, rfl⟩) hvl (fun b hb => by cases hb) ad m c (vL M) hx hml hnews (vL_one M) (by omega) (by unfold maxLen; omega) (by omega) hgrown
    · by_cases hroom : n + m ≤ cap
      · refine wpList_append_fits w hgd s x _ ho 0 5 i 1 Tryz.underlying36 hi hz1 g n cap (vL L) hs hr.own ad m c (vL M) hx hml hnews (vL_one M) hroom ?_
        intro w' h1 h2
        rw [← vL_append] at h1
        exact h _ w' ⟨hlen, hlt, h1⟩ ((Chg.of_grown h2).mono fun k _ h => h) fun k hk => .inl hk
      · refine wpList_append_grows w hgd s x _ ho 5 i (.int .u8 0) 1 1 Tryz.underlying36 hi hz0 hz1 hz2 rfl (by decide) (some ⟨g, 0, none⟩) n cap (vL L) hs (fun hb => by cases hb) hvl (fun b hb j u hu => ?_) ad m c (vL M) hx hml hnews (vL_one M) (by omega) (by unfold maxLen; omega) (by omega) hgrown
        cases hb
        have hj : j < n := by
          rcases Nat.lt_or_ge j n with h | h
          · exact h
          · rw [List.getElem?_eq_none (by rw [vL_len, hr.len]; exact h)] at hu; cases hu
        rw [Go.WideShapes.add_plain, Nat.zero_add, hr.own.cellAt j (by omega)]; exact hu

/-- The writer's memory: at block B what was wrong first, how many bytes there may be, and the row. -/
structure Wr (w : World) (B : Nat) (v : Value) (most : Int) (S : St) : Prop where
  blk : w.heap[B]? = some (.cells #[.int .i64 S.1, .int .i64 most, v] 114 (0, 0))
  row : Row w v S.2.length S.2
  ne : v.ownBlock ≠ some B
theorem cell_of_block {w : World} {B : Nat} {c : Array Value} {t : TypeId} {j : Nat} {v : Value} (h : w.heap[B]? = some (.cells c t (0, 0))) (hj : c[j]? = some v) : w.cell? ⟨B, j, none⟩ = some v := by simp [World.cell?, h, hj]
theorem free_of_block {w : World} {B : Nat} {c : Array Value} {t : TypeId} (j : Nat) (h : w.heap[B]? = some (.cells c t (0, 0))) : w.frozen? ⟨B, j, none⟩ = false := by simp [World.frozen?, h]
theorem block_set {w : World} {B : Nat} {c : Array Value} {t : TypeId} (j : Nat) (v : Value) (h : w.heap[B]? = some (.cells c t (0, 0))) : (w.setCell ⟨B, j, none⟩ v).heap[B]? = some (.cells (c.setIfInBounds j v) t (0, 0)) := by simp [World.setCell, Array.getElem?_modify, h]
theorem lt_of_block' {w : World} {B : Nat} {o : Obj} (h : w.heap[B]? = some o) : B < w.heap.size := (Array.getElem?_eq_some_iff.1 h).1
theorem Wr.lt {w : World} {B : Nat} {v : Value} {most : Int} {S : St} (h : Wr w B v most S) : B < w.heap.size := lt_of_block' h.blk
theorem Wr.chg {S : Nat → Prop} {w w' : World} {B : Nat} {v : Value} {most : Int} {T : St} (h : Wr w B v most T) (hc : Chg S w w') (hB : ¬ S B) (hs : ∀ k, v.ownBlock = some k → ¬ S k) : Wr w' B v most T :=
  ⟨by rw [hc.block B h.lt hB]; exact h.blk, h.row.chg hc hs, h.ne⟩
/-- The reader's memory: at block B what was wrong first, and the bytes that are left. -/
structure Rd (w : World) (B : Nat) (p : Option Addr) (c : Nat) (S : St) : Prop where
  blk : w.heap[B]? = some (.cells #[.int .i64 S.1, .slice p S.2.length c] 96 (0, 0))
  row : Sl w p S.2.length c S.2
  max : c ≤ maxLen
  ne : ∀ a, p = some a → a.block ≠ B
theorem Rd.lt {w : World} {B : Nat} {p : Option Addr} {c : Nat} {S : St} (h : Rd w B p c S) : B < w.heap.size := lt_of_block' h.blk
theorem Rd.chg {T : Nat → Prop} {w w' : World} {B : Nat} {p : Option Addr} {c : Nat} {S : St} (h : Rd w B p c S) (hc : Chg T w w') (hB : ¬ T B) (hs : ∀ a, p = some a → ¬ T a.block) : Rd w' B p c S :=
  ⟨by rw [hc.block B h.lt hB]; exact h.blk, h.row.keep fun a ha hlt => hc.block _ hlt (hs a ha), h.max, h.ne⟩
end Go.Proofs.YtdcanppiiikjgaaGreatDoor
namespace Go.Proofs.YtdcanppiiikjgaaGreatDoor
open Go.RowKit Go.ChangeShapes Go.WideShapes
set_option linter.unusedVariables false
set_option maxRecDepth 10000

theorem note_first (B : Nat) (x : Int) (w : World) (hc : w.cell? ⟨B, 0, none⟩ = some (.int .i64 0)) (hf : w.frozen? ⟨B, 0, none⟩ = false) :
    Calls Tryz.prog 86 #[.pointer (some ⟨B, 0, none⟩), .int .i64 x] w fun e w' => e = .returned (.tuple #[]) ∧ w' = w.setCell ⟨B, 0, none⟩ (.int .i64 x) := by
  go_enter Tryz.func86, Tryz.ntmps86
  go_wp2_with fail
  go_end0
  exact ⟨rfl, rfl⟩
theorem note_more (B : Nat) (y x : Int) (w : World) (hc : w.cell? ⟨B, 0, none⟩ = some (.int .i64 y)) (hy : (y == 0) = false) :
    Calls Tryz.prog 86 #[.pointer (some ⟨B, 0, none⟩), .int .i64 x] w fun e w' => e = .returned (.tuple #[]) ∧ w = w' := by
  have hy' : ¬ y = 0 := by simpa using hy
  go_enter Tryz.func86, Tryz.ntmps86
  go_wp2_with fail
  go_end0
  exact ⟨rfl, rfl⟩
/-- Is a number's size one that there may be? -/
def fit (x : Int) : Bool := decide (1 ≤ x ∧ x ≤ 8)
theorem sized_any (x : Int) (w : World) :
    Calls Tryz.prog 85 #[.int .i64 x] w fun e w' => e = .returned (.bool (fit x)) ∧ w = w' := by
  by_cases h1 : 1 ≤ x
  · by_cases h2 : x ≤ 8
    · have hF : fit x = true := by simp [fit, h1, h2]
      rw [hF]
      go_enter Tryz.func85, Tryz.ntmps85
      go_wp2_with fail
      go_ret
      exact ⟨rfl, rfl⟩
    · have hF : fit x = false := by simp [fit, h2]
      rw [hF]
      go_enter Tryz.func85, Tryz.ntmps85
      go_wp2_with fail
      go_ret
      exact ⟨rfl, rfl⟩
  · have hF : fit x = false := by simp [fit, h1]
    rw [hF]
    go_enter Tryz.func85, Tryz.ntmps85
    go_wp2_with fail
    go_ret
    exact ⟨rfl, rfl⟩

/-- What a copy of bytes is. -/
def Copied (w : World) (n : Nat) (L : List Nat) (e : Ending) (w' : World) : Prop := ∃ v, e = .returned v ∧ Row w' v n L ∧ Below w.heap.size w w' ∧ ∀ k, v.ownBlock = some k → w.heap.size ≤ k
theorem own_none (w : World) : Row (w.alloc (.cells #[] 5)) (.slice (some ⟨w.heap.size, 0, none⟩) 0 0) 0 [] :=
  ⟨rfl, (fun x h => by cases h), World.ownsRow_lit w #[] 0 (Nat.zero_le _) (Nat.zero_le _) rfl⟩
theorem clone_any (p : Option Addr) (n c : Nat) (L : List Nat) (w : World) (hS : Sl w p n c L) (hn : n ≤ 100000) :
    Calls Tryz.prog 67 #[.slice p n c] w (Copied w n L) := by
  have HS := Lib.hid hS
  have HO := Lib.hid (own_none w)
  have HS1 : Hid (Sl (w.alloc (.cells #[] 5)) p n c L) := Lib.hid (hS.later ((Below.refl _ _).alloc (Nat.le_refl _) _))
  have q := fun (w : World) (a : Option Addr) (n c n' c' : Nat) => Lib.run_eql_slice_nil w 36 5 a n c n' c' Tryz.underlying36
  clear hS
  cases p with
  | none =>
    have hc := HS.out.nil rfl
    have hn0 := HS.out.cap
    obtain rfl : n = 0 := by omega
    have hl := HS.out.len
    obtain rfl : L = [] := List.eq_nil_of_length_eq_zero hl
    clear hl hn0 hc
    go_enter Tryz.func67, Tryz.ntmps67
    go_wp2_with fail
    go_ret
    exact ⟨_, rfl, Row.nil _, Below.refl _ _, fun k hk => by cases hk⟩
  | some a =>
    go_enter Tryz.func67, Tryz.ntmps67
    go_wp2_with (at_builtin; refine wpList_append_row rfl _ _ rfl _ _ [] rfl HO.out _ _ _ L rfl HS1.out (by omega) ?_)
    intro v' w' hr hc hk
    have HR := Lib.hid hr
    have HC := Lib.hid hc
    have HK := Lib.hid hk
    clear hr hc hk
    go_wp2_with fail
    go_ret
    refine ⟨_, rfl, by simpa using HR.out, ?_, fun k hv => ?_⟩
    · exact HC.out.below ((Below.refl _ _).alloc (Nat.le_refl _) _) (by simp) fun k hk => by simp [Value.ownBlock] at hk; omega
    · rcases HK.out k hv with h | h
      · simp [Value.ownBlock] at h; omega
      · exact Nat.le_trans (by simp) h
end Go.Proofs.YtdcanppiiikjgaaGreatDoor
namespace Go.Proofs.YtdcanppiiikjgaaGreatDoor
open Go.RowKit Go.ChangeShapes Go.WideShapes
set_option linter.unusedVariables false
set_option maxRecDepth 10000

theorem err_any (B : Nat) (x : Int) (w : World) (hc : w.cell? ⟨B, 0, none⟩ = some (.int .i64 x)) :
    Calls Tryz.prog 61 #[.pointer (some ⟨B, 0, none⟩)] w fun e w' => e = .returned (.int .i64 x) ∧ w = w' := by
  go_enter Tryz.func61, Tryz.ntmps61
  go_wp2_with fail
  go_ret
  exact ⟨rfl, rfl⟩
theorem left_ok (B n c : Nat) (p : Option Addr) (w : World) (hc : w.cell? ⟨B, 0, none⟩ = some (.int .i64 0)) (h1 : w.cell? ⟨B, 1, none⟩ = some (.slice p n c)) :
    Calls Tryz.prog 97 #[.pointer (some ⟨B, 0, none⟩)] w fun e w' => e = .returned (.int .i64 n) ∧ w = w' := by
  go_enter Tryz.func97, Tryz.ntmps97
  go_wp2_with fail
  go_ret
  exact ⟨rfl, rfl⟩
theorem left_bad (B : Nat) (x : Int) (w : World) (hc : w.cell? ⟨B, 0, none⟩ = some (.int .i64 x)) (hx : (x == 0) = false) :
    Calls Tryz.prog 97 #[.pointer (some ⟨B, 0, none⟩)] w fun e w' => e = .returned (.int .i64 0) ∧ w = w' := by
  have hx' : (x != 0) = true := by simpa using hx
  go_enter Tryz.func97, Tryz.ntmps97
  go_wp2_with fail
  go_ret
  exact ⟨rfl, rfl⟩
theorem Rd.c0 {w : World} {B : Nat} {p : Option Addr} {c : Nat} {S : St} (h : Rd w B p c S) : w.cell? ⟨B, 0, none⟩ = some (.int .i64 S.1) := cell_of_block h.blk rfl
theorem Rd.c1 {w : World} {B : Nat} {p : Option Addr} {c : Nat} {S : St} (h : Rd w B p c S) : w.cell? ⟨B, 1, none⟩ = some (.slice p S.2.length c) := cell_of_block h.blk rfl
theorem Rd.free {w : World} {B : Nat} {p : Option Addr} {c : Nat} {S : St} (h : Rd w B p c S) (j : Nat) : w.frozen? ⟨B, j, none⟩ = false := free_of_block j h.blk
theorem left_any (B c : Nat) (p : Option Addr) (S : St) (w : World) (h : Rd w B p c S) :
    Calls Tryz.prog 97 #[.pointer (some ⟨B, 0, none⟩)] w fun e w' => e = .returned (.int .i64 (leftR S : Nat)) ∧ w = w' := by
  have h0 := h.c0
  have h1 := h.c1
  obtain ⟨x, L⟩ := S
  by_cases hx : x = 0
  · subst hx
    exact left_ok B _ c p w h0 h1
  · rw [show leftR (x, L) = 0 from if_neg hx]
    exact left_bad B x w h0 (by simpa using hx)
theorem end_any (B c : Nat) (p : Option Addr) (S : St) (w : World) (h : Rd w B p c S) (hb : S.2.length ≤ 1000000) :
    Calls Tryz.prog 66 #[.pointer (some ⟨B, 0, none⟩)] w fun e w' => e = .returned (.int .i64 (endR S)) ∧ w = w' := by
  have H := Lib.hid h
  clear h
  obtain ⟨x, L⟩ := S
  by_cases hx : x = 0
  · subst hx
    have hl : leftR (0, L) = L.length := rfl
    have hb' : L.length ≤ 1000000 := hb
    clear hb
    by_cases h0 : 0 < L.length
    · have he : endR (0, L) = 8 := if_pos ⟨rfl, h0⟩
      rw [he]
      clear he
      generalize L.length = n at *
      go_enter Tryz.func66, Tryz.ntmps66
      go_wp2_with fail
      refine (err_any B 0 _ H.out.c0).mono ?_
      rintro e w' ⟨rfl, rfl⟩
      go_wp2_with fail
      refine (left_any B _ _ _ _ H.out).mono ?_
      rw [hl]
      clear hl
      rintro e w' ⟨rfl, rfl⟩
      go_wp2_with fail
      go_ret
      exact ⟨rfl, rfl⟩
    · have hL : L = [] := List.eq_nil_of_length_eq_zero (by omega)
      subst hL
      clear hl
      have he : endR (0, []) = 0 := rfl
      have hl : leftR (0, []) = 0 := rfl
      rw [he]
      clear he
      go_enter Tryz.func66, Tryz.ntmps66
      go_wp2_with fail
      refine (err_any B 0 _ H.out.c0).mono ?_
      rintro e w' ⟨rfl, rfl⟩
      go_wp2_with fail
      refine (left_any B _ _ _ _ H.out).mono ?_
      rw [hl]
      clear hl
      rintro e w' ⟨rfl, rfl⟩
      go_wp2_with fail
      refine (err_any B 0 _ H.out.c0).mono ?_
      rintro e w' ⟨rfl, rfl⟩
      go_wp2_with fail
      go_ret
      exact ⟨rfl, rfl⟩
  · have he : endR (x, L) = x := if_neg fun h => hx h.1
    rw [he]
    clear he
    have hx1 : (x == 0) = false := by simpa using hx
    have hx2 : ¬ x = 0 := hx
    clear hx
    go_enter Tryz.func66, Tryz.ntmps66
    go_wp2_with fail
    refine (err_any B x _ H.out.c0).mono ?_
    rintro e w' ⟨rfl, rfl⟩
    go_wp2_with fail
    refine (err_any B x _ H.out.c0).mono ?_
    rintro e w' ⟨rfl, rfl⟩
    go_wp2_with fail
    go_ret
    exact ⟨rfl, rfl⟩
theorem take_bad (B c n : Nat) (p : Option Addr) (x : Int) (L : List Nat) (w : World) (h : Rd w B p c (x, L)) (hb : L.length ≤ 1000000) (hn : n ≤ 1000000) (hx : (x == 0) = false) :
    Calls Tryz.prog 92 #[.pointer (some ⟨B, 0, none⟩), .int .i64 n] w fun e w' => e = .returned (.slice none 0 0) ∧ w = w' := by
  have H := Lib.hid h
  have h0 : w.cell? ⟨B, 0, none⟩ = some (.int .i64 x) := h.c0
  have h1 : w.cell? ⟨B, 1, none⟩ = some (.slice p L.length c) := h.c1
  clear h
  generalize L.length = m at *
  have hx' : ¬ x = 0 := by simpa using hx
  by_cases hmn : m < n
  · go_enter Tryz.func92, Tryz.ntmps92
    go_wp2_with fail
    refine (note_more B x 6 _ h0 hx).mono ?_
    rintro e w' ⟨rfl, rfl⟩
    go_wp2_with fail
    go_ret
    exact ⟨rfl, rfl⟩
  · go_enter Tryz.func92, Tryz.ntmps92
    go_wp2_with fail
    go_ret
    exact ⟨rfl, rfl⟩
theorem take_short (B c n : Nat) (p : Option Addr) (L : List Nat) (w : World) (h : Rd w B p c (0, L)) (hb : L.length ≤ 1000000) (hn : n ≤ 1000000) (hmn : L.length < n) :
    Calls Tryz.prog 92 #[.pointer (some ⟨B, 0, none⟩), .int .i64 n] w fun e w' => e = .returned (.slice none 0 0) ∧ w' = w.setCell ⟨B, 0, none⟩ (.int .i64 6) := by
  have h0 : w.cell? ⟨B, 0, none⟩ = some (.int .i64 0) := h.c0
  have h1 : w.cell? ⟨B, 1, none⟩ = some (.slice p L.length c) := h.c1
  have hf := h.free 0
  have h2 : (w.setCell ⟨B, 0, none⟩ (.int .i64 6)).cell? ⟨B, 0, none⟩ = some (.int .i64 6) := cell_of_block (block_set 0 _ h.blk) rfl
  clear h
  generalize L.length = m at *
  go_enter Tryz.func92, Tryz.ntmps92
  go_wp2_with fail
  refine (note_first B 6 _ h0 hf).mono ?_
  rintro e w' ⟨rfl, rfl⟩
  go_wp2_with fail
  go_ret
  exact ⟨rfl, rfl⟩
theorem take_good (B c n : Nat) (p : Option Addr) (L : List Nat) (w : World) (h : Rd w B p c (0, L)) (hb : L.length ≤ 1000000) (hmn : n ≤ L.length) :
    Calls Tryz.prog 92 #[.pointer (some ⟨B, 0, none⟩), .int .i64 n] w fun e w' => e = .returned (.slice p n c) ∧ w' = w.setCell ⟨B, 1, none⟩ (.slice (if c = n then p else p.map fun a => a.add n) (L.length - n) (c - n)) := by
  have h0 : w.cell? ⟨B, 0, none⟩ = some (.int .i64 0) := h.c0
  have h1 : w.cell? ⟨B, 1, none⟩ = some (.slice p L.length c) := h.c1
  have hf := h.free 1
  have hcap : L.length ≤ c := h.row.cap
  have hmax : c ≤ 9223372036854775807 := h.max
  clear h
  generalize L.length = m at *
  go_enter Tryz.func92, Tryz.ntmps92
  go_wp2_with fail
  all_goals (go_ret; exact ⟨rfl, rfl⟩)
end Go.Proofs.YtdcanppiiikjgaaGreatDoor
namespace Go.Proofs.YtdcanppiiikjgaaGreatDoor
open Go.RowKit Go.ChangeShapes Go.WideShapes
set_option linter.unusedVariables false
set_option maxRecDepth 10000

theorem Wr.c0 {w : World} {B : Nat} {v : Value} {most : Int} {S : St} (h : Wr w B v most S) : w.cell? ⟨B, 0, none⟩ = some (.int .i64 S.1) := cell_of_block h.blk rfl
theorem Wr.c1 {w : World} {B : Nat} {v : Value} {most : Int} {S : St} (h : Wr w B v most S) : w.cell? ⟨B, 1, none⟩ = some (.int .i64 most) := cell_of_block h.blk rfl
theorem Wr.c2 {w : World} {B : Nat} {v : Value} {most : Int} {S : St} (h : Wr w B v most S) : w.cell? ⟨B, 2, none⟩ = some v := cell_of_block h.blk rfl
theorem Wr.free {w : World} {B : Nat} {v : Value} {most : Int} {S : St} (h : Wr w B v most S) (j : Nat) : w.frozen? ⟨B, j, none⟩ = false := free_of_block j h.blk
theorem Wr.drewN {w : World} {B : Nat} {v : Value} {most : Int} {S : St} (h : Wr w B v most S) (q : Nat) : Wr (w.drewN q) B v most S := ⟨h.blk, h.row.keep fun _ _ => rfl, h.ne⟩
/-- What becomes of a writer: its own block and its row may be written; the row is the old one or a new one. -/
structure Wrote (w : World) (B : Nat) (v : Value) (most : Int) (S : St) (w' : World) : Prop where
  wr : ∃ v', Wr w' B v' most S ∧ ∀ k, v'.ownBlock = some k → v.ownBlock = some k ∨ w.heap.size ≤ k
  chg : Chg (fun k => k = B ∨ v.ownBlock = some k) w w'
theorem Wrote.same {w : World} {B : Nat} {v : Value} {most : Int} {S : St} (h : Wr w B v most S) : Wrote w B v most S w := ⟨⟨v, h, fun k hk => .inl hk⟩, Chg.refl _ _⟩
/-- What a writer's call leaves. -/
def Wrot (w : World) (B : Nat) (v : Value) (most : Int) (S : St) (e : Ending) (w' : World) : Prop := e = .returned (.tuple #[]) ∧ Wrote w B v most S w'
theorem Wr.fault {w : World} {B : Nat} {v : Value} {most : Int} {S : St} (h : Wr w B v most S) (x : Int) : Wrote w B v most (x, S.2) (w.setCell ⟨B, 0, none⟩ (.int .i64 x)) :=
  ⟨⟨v, ⟨block_set 0 _ h.blk, h.row.keep fun k hk => Below.heap_setCell _ _ _ _ fun e => h.ne (by rw [hk, e]), h.ne⟩, fun k hk => .inl hk⟩, (Chg.refl _ _).setCell _ _ fun _ => .inl rfl⟩
theorem Wrote.before {a b c : World} {B : Nat} {v : Value} {most : Int} {S : St} (hc : Chg (fun _ => False) a b) (h : Wrote b B v most S c) : Wrote a B v most S c := by
  obtain ⟨v', h1, h2⟩ := h.wr
  refine ⟨⟨v', h1, fun k hk => ?_⟩, (hc.mono (T := fun k => k = B ∨ v.ownBlock = some k) fun _ _ h => h.elim).trans h.chg fun _ _ h => h⟩
  rcases h2 k hk with h | h
  · exact .inl h
  · exact .inr (Nat.le_trans hc.size h)
theorem note_wr (B : Nat) (v : Value) (most : Int) (S : St) (x : Int) (w : World) (h : Wr w B v most S) :
    Calls Tryz.prog 86 #[.pointer (some ⟨B, 0, none⟩), .int .i64 x] w (Wrot w B v most (bad x S)) := by
  obtain ⟨y, L⟩ := S
  by_cases hy : y = 0
  · subst hy
    refine (note_first B x w h.c0 (h.free 0)).mono ?_
    rintro e w' ⟨rfl, rfl⟩
    exact ⟨rfl, h.fault x⟩
  · have hb : bad x (y, L) = (y, L) := if_neg hy
    rw [hb]
    refine (note_more B y x w h.c0 (by simpa using hy)).mono ?_
    rintro e w' ⟨rfl, rfl⟩
    exact ⟨rfl, Wrote.same h⟩
theorem new_any (m : Int) (w : World) :
    Calls Tryz.prog 50 #[.int .i64 m] w fun e w' => e = .returned (.pointer (some ⟨w.heap.size, 0, none⟩)) ∧ w' = w.alloc (.cells #[.int .i64 0, .int .i64 (if m < 0 then 0 else m), .slice none 0 0] 114) := by
  go_enter Tryz.func50, Tryz.ntmps50
  go_wp2_with fail
  all_goals (go_ret; exact ⟨rfl, rfl⟩)
theorem new_wr (w : World) (m : Int) : Wr (w.alloc (.cells #[.int .i64 0, .int .i64 m, .slice none 0 0] 114)) w.heap.size (.slice none 0 0) m (0, []) :=
  ⟨heap_alloc_new w _, Row.nil _, fun h => by cases h⟩
theorem raw_full (B : Nat) (v : Value) (most x : Int) (L : List Nat) (w : World) (h : Wr w B v most (x, L)) (hx : (x == 0) = false) (p : Option Addr) (m c : Nat) :
    Calls Tryz.prog 53 #[.pointer (some ⟨B, 0, none⟩), .slice p m c] w fun e w' => e = .returned (.tuple #[]) ∧ w = w' := by
  have h0 : w.cell? ⟨B, 0, none⟩ = some (.int .i64 x) := h.c0
  have hx' : (x != 0) = true := by simpa using hx
  clear h
  go_enter Tryz.func53, Tryz.ntmps53
  go_wp2_with fail
  refine bodyPost_ret (results_none rfl _ _ _) rfl ?_
  exact ⟨rfl, rfl⟩
theorem raw_long (B : Nat) (v : Value) (most : Int) (L : List Nat) (w : World) (h : Wr w B v most (0, L)) (p : Option Addr) (m c : Nat) (h0 : 0 ≤ most) (h9 : most ≤ 9223372036854775807) (hl : L.length ≤ 1000000) (hm : m ≤ 1000000) (hlong : most < (L.length : Int) + (m : Int)) :
    Calls Tryz.prog 53 #[.pointer (some ⟨B, 0, none⟩), .slice p m c] w (Wrot w B v most (7, L)) := by
  have H := Lib.hid h
  have c0 : w.cell? ⟨B, 0, none⟩ = some (.int .i64 0) := h.c0
  have c1 := h.c1
  have c2 := h.c2
  obtain ⟨pv, cv, rfl, _⟩ := h.row.sl
  clear h
  replace c2 : w.cell? ⟨B, 2, none⟩ = some (.slice pv L.length cv) := c2
  have H2 : Hid (∀ q, Calls Tryz.prog 86 #[.pointer (some ⟨B, 0, none⟩), .int .i64 7] (w.drewN q) (Wrot (w.drewN q) B (.slice pv L.length cv) most (7, L))) := Lib.hid fun q => note_wr B _ most (0, L) 7 _ (H.out.drewN q)
  generalize hn : L.length = n at *
  have HN := Lib.hid hn
  clear hn
  have e1 : IntKind.i64.wrap (most - (n : Int)) = most - (n : Int) := IntWalk.i64_in _ (by omega)
  have e2 : most - (n : Int) < (m : Int) := by omega
  go_enter Tryz.func53, Tryz.ntmps53
  go_wp2_with fail
  go_quiet (fail)
  go_wp2_with fail
  refine (H2.out _).mono ?_
  rintro e w1 ⟨rfl, hw⟩
  have HW := Lib.hid hw
  clear hw
  go_wp2_with fail
  refine bodyPost_ret (results_none rfl _ _ _) rfl ?_
  exact ⟨rfl, HW.out.before ((Chg.refl _ _).drewN _)⟩
theorem Wr.push {w w' : World} {B : Nat} {v v' : Value} {most : Int} {L M : List Nat} {n q : Nat} (h : Wr w B v most (0, L)) (hr : Row w' v' n (L ++ M)) (hc : Chg (fun k => v.ownBlock = some k) (w.drewN q) w')
    (hk : ∀ k, v'.ownBlock = some k → v.ownBlock = some k ∨ w.heap.size ≤ k) : w'.frozen? ⟨B, 2, none⟩ = false ∧ w'.cell? ⟨B, 2, none⟩ = some v ∧ Wrote w B v most (0, L ++ M) (w'.setCell ⟨B, 2, none⟩ v') := by
  have hb : w'.heap[B]? = some (.cells #[.int .i64 0, .int .i64 most, v] 114 (0, 0)) := by
    rw [hc.block B h.lt h.ne, World.heap_drewN]; exact h.blk
  have hne : v'.ownBlock ≠ some B := fun e => by
    rcases hk B e with h' | h'
    · exact h.ne h'
    · have := h.lt; omega
  refine ⟨free_of_block 2 hb, cell_of_block hb rfl, ⟨v', ⟨block_set 2 v' hb, ?_, hne⟩, hk⟩, ?_⟩
  · have := hr.len
    subst this
    exact hr.keep fun k hk' => Below.heap_setCell _ _ _ _ fun e => hne (by rw [hk', e])
  · exact (((Chg.refl (fun _ => False) w).drewN q).mono (T := fun k => k = B ∨ v.ownBlock = some k) fun _ _ h => h.elim).trans ((hc.mono (T := fun k => k = B ∨ v.ownBlock = some k) fun _ _ h => .inr h).setCell _ _ fun _ => .inl rfl) fun _ _ h => h
theorem raw_good (B : Nat) (v : Value) (most : Int) (L : List Nat) (w : World) (h : Wr w B v most (0, L)) (p : Option Addr) (m c : Nat) (M : List Nat) (hs : Sl w p m c M) (h0 : 0 ≤ most) (h9 : most ≤ 9223372036854775807) (hl : L.length + m ≤ 1000000) (hlong : (L.length : Int) + (m : Int) ≤ most) :
    Calls Tryz.prog 53 #[.pointer (some ⟨B, 0, none⟩), .slice p m c] w (Wrot w B v most (0, L ++ M)) := by
  have H := Lib.hid h
  have c0 : w.cell? ⟨B, 0, none⟩ = some (.int .i64 0) := h.c0
  have c1 := h.c1
  have c2 := h.c2
  obtain ⟨pv, cv, hv, _⟩ := h.row.sl
  subst hv
  have HR : Hid (∀ q, Row (w.drewN q) (.slice pv L.length cv) L.length L) := Lib.hid fun q => (h.drewN q).row
  have HS : Hid (∀ q, Sl (w.drewN q) p m c M) := Lib.hid fun q => hs.keep fun _ _ _ => rfl
  clear h hs
  replace c2 : w.cell? ⟨B, 2, none⟩ = some (.slice pv L.length cv) := c2
  generalize hn : L.length = n at *
  have HN := Lib.hid hn
  clear hn
  have e1 : IntKind.i64.wrap (most - (n : Int)) = most - (n : Int) := IntWalk.i64_in _ (by omega)
  have e2 : ¬ (most - (n : Int) < (m : Int)) := by omega
  go_enter Tryz.func53, Tryz.ntmps53
  go_wp2_with fail
  go_quiet (fail)
  clear e1
  go_wp2_with (at_builtin; refine wpList_append_row rfl _ _ rfl _ _ L rfl (HR.out _) _ _ _ M rfl (HS.out _) (by omega) ?_)
  intro v' w' hr hc hk
  obtain ⟨hf, hcell, hw⟩ := H.out.push hr hc hk
  obtain ⟨p', c', rfl, _⟩ := hr.sl
  have HW := Lib.hid hw
  clear hr hc hk hw
  go_wp2_with fail
  go_end0
  exact ⟨rfl, HW.out⟩
theorem raw_any (B : Nat) (v : Value) (most : Int) (S : St) (w : World) (h : Wr w B v most S) (p : Option Addr) (m c : Nat) (M : List Nat) (hs : Sl w p m c M) (h0 : 0 ≤ most) (h9 : most ≤ 9223372036854775807) (hl : S.2.length + m ≤ 1000000) :
    Calls Tryz.prog 53 #[.pointer (some ⟨B, 0, none⟩), .slice p m c] w (Wrot w B v most (rawW most S M)) := by
  obtain ⟨x, L⟩ := S
  replace hl : L.length + m ≤ 1000000 := hl
  have hM := hs.len
  unfold rawW
  by_cases hx : x = 0
  · subst hx
    rw [if_pos rfl]
    by_cases hlong : most < (L.length : Int) + (m : Int)
    · rw [if_pos (by rw [hM]; exact hlong)]
      exact raw_long B v most L w h p m c h0 h9 (by omega) (by omega) hlong
    · rw [if_neg (by rw [hM]; exact hlong)]
      exact raw_good B v most L w h p m c M hs h0 h9 hl (by omega)
  · rw [if_neg (show ¬ (x, L).1 = 0 from hx)]
    refine (raw_full B v most x L w h (by simpa using hx) p m c).mono ?_
    rintro e w' ⟨rfl, rfl⟩
    exact ⟨rfl, Wrote.same h⟩
/-- What Done leaves. -/
def Doned (w : World) (S : St) (e : Ending) (w' : World) : Prop := Below w.heap.size w w' ∧ if S.1 = 0 then ∃ v, e = .returned (.tuple #[v, .int .i64 0]) ∧ Row w' v S.2.length S.2 ∧ ∀ k, v.ownBlock = some k → w.heap.size ≤ k else e = .returned (.tuple #[.slice none 0 0, .int .i64 S.1])
theorem done_any (B : Nat) (v : Value) (most : Int) (S : St) (w : World) (h : Wr w B v most S) (hl : S.2.length ≤ 100000) :
    Calls Tryz.prog 57 #[.pointer (some ⟨B, 0, none⟩)] w (Doned w S) := by
  obtain ⟨x, L⟩ := S
  have c0 : w.cell? ⟨B, 0, none⟩ = some (.int .i64 x) := h.c0
  have c2 := h.c2
  obtain ⟨p, c, rfl, _, hs, _⟩ := h.row.sl
  have HC := Lib.hid (clone_any p _ c _ w hs hl)
  clear h hs hl
  by_cases hx : x = 0
  · subst hx
    go_enter Tryz.func57, Tryz.ntmps57
    go_wp2_with fail
    refine HC.out.mono ?_
    rintro e w1 ⟨v, rfl, h1, h2, h3⟩
    have HB := Lib.hid h2
    have HV : Hid (∃ v', v' = v ∧ Row w1 v' L.length L ∧ ∀ k, v'.ownBlock = some k → w.heap.size ≤ k) := Lib.hid ⟨v, rfl, h1, h3⟩
    clear h1 h2 h3
    go_wp2_with fail
    go_ret2
    obtain ⟨v', rfl, h1, h2⟩ := HV.out
    refine ⟨HB.out, ?_⟩
    rw [if_pos rfl]
    exact ⟨_, rfl, h1, h2⟩
  · have hx1 : (x == 0) = false := by simpa using hx
    have hx2 : (x != 0) = true := by simpa using hx
    go_enter Tryz.func57, Tryz.ntmps57
    go_wp2_with fail
    go_quiet (fail)
    go_wp2_with fail
    go_ret2
    refine ⟨below_drewN (Below.refl _ _) _, ?_⟩
    rw [if_neg (show ¬ (x, L).1 = 0 from hx)]
    rfl
end Go.Proofs.YtdcanppiiikjgaaGreatDoor
