/- A program read, as plain data: the program's way and the document's. Nothing of the program. -/
/- The program's reader: the wire's reader behind a box that also holds whether some list was too long. -/
/- A line and a take read: the program's way. -/
import Derived.Test.YtdcanppiiikjgaaGreatDoorGrProgd
import Derived.Test.YtdcanppiiikjgaaGreatDoorGrWireb
import Derived.Test.YtdcanppiiikjgaaGreatDoorPgRow
import Derived.Test.YtdcanppiiikjgaaGreatDoorPgAt
import Derived.Deep.Cut
namespace Go.Proofs.YtdcanppiiikjgaaGreatDoor
open Go.RowKit Go.ChangeShapes Go.WideShapes
set_option linter.unusedVariables false
set_option maxRecDepth 10000

def lineR (S : St) : St × Ln := ((numR (numR S 1).1 8).1, (((numR S 1).2 : Nat), sgn (numR (numR S 1).1 8).2))
def tkR (S : St) : St × Tk :=
  ((numR (numR (numR (numR S 4).1 1).1 1).1 8).1, (((numR S 4).2 : Nat), ((numR (numR S 4).1 1).2 : Nat), ((numR (numR (numR S 4).1 1).1 1).2 : Nat), sgn (numR (numR (numR (numR S 4).1 1).1 1).1 8).2))
/-- So many, one behind the other. -/
def manyR {α : Type} (f : St → St × α) : Nat → St → St × List α
  | 0, S => (S, [])
  | n + 1, S => ((f (manyR f n S).1).1, (manyR f n S).2 ++ [(f (manyR f n S).1).2])
/-- A list, as the program reads it: what is left, the list, whether there were too many. -/
def listR {α : Type} (f : St → St × α) (most : Nat) (S : St) : (St × List α) × Bool := if most < (numR S 1).2 then (((numR S 1).1, []), true) else (manyR f (numR S 1).2 (numR S 1).1, false)
/-- How many there are, as the document reads it. -/
def cntR (S : St) (most : Nat) : St × Nat := if (numR S 1).1.1 = 0 then (if most < (numR S 1).2 then ((8, (numR S 1).1.2), 0) else ((numR S 1).1, (numR S 1).2)) else ((numR S 1).1, 0)
/-- A list, as the document reads it. -/
def rlistR {α : Type} (f : St → St × α) (most : Nat) (S : St) : St × List α := manyR f (cntR S most).2 (cntR S most).1
theorem numR_bad {S : St} (h : S.1 ≠ 0) {size : Int} (hs : 1 ≤ size ∧ size ≤ 8) : numR S size = (S, 0) := by
  unfold numR takeR
  rw [if_pos hs, if_neg h]; rfl
theorem numR_err {S : St} {size : Int} (hs : 1 ≤ size ∧ size ≤ 8) (h : (numR S size).1.1 ≠ 0) : (numR S size).2 = 0 := by
  unfold numR takeR at *
  rw [if_pos hs] at *
  by_cases h0 : S.1 = 0
  · rw [if_pos h0] at *
    split at h
    · rename_i hl; rw [if_pos hl]; rfl
    · exact absurd rfl h
  · rw [if_neg h0]; rfl
theorem lineR_bad {S : St} (h : S.1 ≠ 0) : (lineR S).1 = S := by
  unfold lineR
  rw [numR_bad h (by omega), numR_bad h (by omega)]
theorem tkR_bad {S : St} (h : S.1 ≠ 0) : (tkR S).1 = S := by
  unfold tkR
  rw [numR_bad h (size := 4) (by omega), numR_bad h (size := 1) (by omega), numR_bad h (size := 1) (by omega), numR_bad h (size := 8) (by omega)]
theorem manyR_bad {α : Type} {f : St → St × α} (hf : ∀ S : St, S.1 ≠ 0 → (f S).1 = S) {S : St} (h : S.1 ≠ 0) : ∀ n, (manyR f n S).1 = S
  | 0 => rfl
  | n + 1 => by
    show (f (manyR f n S).1).1 = S
    rw [manyR_bad hf h n, hf S h]
/-- Behind an error nothing turns. -/
theorem manyR_stop {α : Type} {f : St → St × α} (hf : ∀ S : St, S.1 ≠ 0 → (f S).1 = S) (S : St) {i : Nat} (h : (manyR f i S).1.1 ≠ 0) : ∀ k, (manyR f (i + k) S).1 = (manyR f i S).1
  | 0 => rfl
  | k + 1 => by
    show (f (manyR f (i + k) S).1).1 = _
    rw [manyR_stop hf S h k, hf _ h]
theorem manyR_len {α : Type} {f : St → St × α} (S : St) : ∀ n, (manyR f n S).2.length = n
  | 0 => rfl
  | n + 1 => by
    show ((manyR f n S).2 ++ [_]).length = n + 1
    rw [List.length_append, manyR_len S n]; rfl
theorem rlistR_bad {α : Type} {f : St → St × α} {most : Nat} {S : St} (h : S.1 ≠ 0) : rlistR f most S = (S, []) := by
  unfold rlistR cntR
  rw [numR_bad h (by omega), if_neg h]
  rfl
theorem listR_bad {α : Type} {f : St → St × α} {most : Nat} {S : St} (h : S.1 ≠ 0) : listR f most S = ((S, []), false) := by
  unfold listR
  rw [numR_bad h (by omega), if_neg (by omega)]
  rfl
/-- Both ways come to the same, where there were not too many; else the document's says so. -/
theorem list_both {α : Type} {f : St → St × α} (hf : ∀ S : St, S.1 ≠ 0 → (f S).1 = S) (most : Nat) (S : St) : ((listR f most S).2 = false ∧ rlistR f most S = (listR f most S).1) ∨ ((listR f most S).2 = true ∧ (rlistR f most S).1.1 = 8) := by
  by_cases h : S.1 = 0
  · unfold listR rlistR cntR
    by_cases he : (numR S 1).1.1 = 0
    · rw [if_pos he]
      by_cases hm : most < (numR S 1).2
      · rw [if_pos hm, if_pos hm]
        right
        exact ⟨rfl, rfl⟩
      · rw [if_neg hm, if_neg hm]
        left
        exact ⟨rfl, rfl⟩
    · rw [if_neg he, numR_err (by omega) he, if_neg (by omega)]
      left
      exact ⟨rfl, rfl⟩
  · left
    rw [rlistR_bad h, listR_bad h]
    exact ⟨rfl, rfl⟩
/-- The ten fields, as the program reads them; whether some list was too long. -/
structure Dec where
  st : St
  pg : Pg
  many : Bool
def decR (B : List Nat) : Dec :=
  let r1 := numR (0, B) 1
  let r2 := numR r1.1 4
  let r3 := numR r2.1 1
  let l := listR lineR 3 r3.1
  let t := listR tkR 12 l.1.1
  let o := listR lineR 3 t.1.1
  let r4 := numR o.1.1 1
  let r5 := numR r4.1 1
  let r6 := numR r5.1 1
  let r7 := numR r6.1 8
  ⟨r7.1, ⟨(r1.2 : Nat), (r2.2 : Nat), (r3.2 : Nat), l.1.2, t.1.2, o.1.2, (r4.2 : Nat), (r5.2 : Nat), (r6.2 : Nat), sgn r7.2⟩, l.2 || t.2 || o.2⟩
/-- The same, as the document reads them. -/
def refR (B : List Nat) : St × Pg :=
  let r1 := numR (0, B) 1
  let r2 := numR r1.1 4
  let r3 := numR r2.1 1
  let l := rlistR lineR 3 r3.1
  let t := rlistR tkR 12 l.1
  let o := rlistR lineR 3 t.1
  let r4 := numR o.1 1
  let r5 := numR r4.1 1
  let r6 := numR r5.1 1
  let r7 := numR r6.1 8
  (r7.1, ⟨(r1.2 : Nat), (r2.2 : Nat), (r3.2 : Nat), l.2, t.2, o.2, (r4.2 : Nat), (r5.2 : Nat), (r6.2 : Nat), sgn r7.2⟩)
theorem ref_dec (B : List Nat) : ((decR B).many = false ∧ refR B = ((decR B).st, (decR B).pg)) ∨ ((decR B).many = true ∧ (refR B).1.1 = 8) := by
  unfold decR refR
  dsimp only
  generalize numR (numR (numR (0, B) 1).1 4).1 1 = r3
  have e8 : ∀ S : St, S.1 = 8 → S.1 ≠ 0 := fun S h => by omega
  rcases list_both (f := lineR) (fun S h => lineR_bad h) 3 r3.1 with ⟨h1, h2⟩ | ⟨h1, h2⟩
  · rw [h2]
    rcases list_both (f := tkR) (fun S h => tkR_bad h) 12 (listR lineR 3 r3.1).1.1 with ⟨h3, h4⟩ | ⟨h3, h4⟩
    · rw [h4]
      rcases list_both (f := lineR) (fun S h => lineR_bad h) 3 (listR tkR 12 (listR lineR 3 r3.1).1.1).1.1 with ⟨h5, h6⟩ | ⟨h5, h6⟩
      · left
        rw [h6]
        exact ⟨by rw [h1, h3, h5]; rfl, rfl⟩
      · right
        refine ⟨by rw [h5]; simp, ?_⟩
        have hn := e8 _ h6
        rw [numR_bad hn (size := 1) (by omega), numR_bad hn (size := 1) (by omega), numR_bad hn (size := 1) (by omega), numR_bad hn (size := 8) (by omega)]
        exact h6
    · right
      refine ⟨by rw [h3]; simp, ?_⟩
      have hn := e8 _ h4
      rw [rlistR_bad hn, numR_bad hn (size := 1) (by omega), numR_bad hn (size := 1) (by omega), numR_bad hn (size := 1) (by omega), numR_bad hn (size := 8) (by omega)]
      exact h4
  · right
    refine ⟨by rw [h1]; simp, ?_⟩
    have hn := e8 _ h2
    rw [rlistR_bad hn, rlistR_bad hn, numR_bad hn (size := 1) (by omega), numR_bad hn (size := 1) (by omega), numR_bad hn (size := 1) (by omega), numR_bad hn (size := 8) (by omega)]
    exact h2
/-- Nothing at all. -/
def noP : Pg := ⟨0, 0, 0, [], [], [], 0, 0, 0, 0⟩
/-- What is decoded, or the first error. -/
def decE (B : List Nat) : Int := if (decR B).many = true then 8 else endR (decR B).st
def decP (B : List Nat) : Int × Pg := if decE B ≠ 0 then (decE B, noP) else if goodP 4 4 (decR B).pg = true then (0, (decR B).pg) else (8, noP)
/-- The document's. -/
def rdecP (B : List Nat) : Int × Pg := if (refR B).1.1 ≠ 0 then ((refR B).1.1, noP) else if 0 < (refR B).1.2.length ∨ goodP 4 4 (refR B).2 = false then (8, noP) else (0, (refR B).2)
theorem dec_both (B : List Nat) : rdecP B = decP B := by
  unfold rdecP decP decE
  rcases ref_dec B with ⟨h1, h2⟩ | ⟨h1, h2⟩
  · rw [h2, h1, if_neg (show ¬ (false = true) by decide)]
    dsimp only
    unfold endR
    generalize (decR B).st.1 = s
    generalize (decR B).st.2.length = n
    generalize goodP 4 4 (decR B).pg = g
    by_cases h0 : s = 0
    · by_cases hl : 0 < n
      · simp [h0, hl]
      · cases g <;> simp [h0, hl]
    · simp [h0]
  · rw [h1, h2, if_pos (by decide), if_pos rfl, if_pos (by decide)]
end Go.Proofs.YtdcanppiiikjgaaGreatDoor
namespace Go.Proofs.YtdcanppiiikjgaaGreatDoor
open Go.RowKit Go.ChangeShapes Go.WideShapes
set_option linter.unusedVariables false
set_option linter.unusedSimpArgs false
set_option maxRecDepth 10000

theorem numR_less (S : St) (size : Int) : (numR S size).1.2.length ≤ S.2.length := by
  unfold numR takeR bad
  split
  · split
    · split
      · exact Nat.le_refl _
      · show (S.2.drop size.toNat).length ≤ _
        rw [List.length_drop]; omega
    · exact Nat.le_refl _
  · split <;> exact Nat.le_refl _
theorem numR_fit {S : St} (h : ∀ y ∈ S.2, y < 256) {n : Nat} (h1 : 1 ≤ n) (h8 : n ≤ 8) : (numR S n).2 < 256 ^ n := by
  unfold numR
  rw [if_pos ⟨by omega, by omega⟩, Int.toNat_natCast]
  have h2 := un_lt (takeR S n).2 (takeR_lt S n h)
  exact Nat.lt_of_lt_of_le h2 (Nat.pow_le_pow_right (by omega) (takeR_len S n))
theorem numR_bytes {S : St} (h : ∀ y ∈ S.2, y < 256) (size : Int) : ∀ y ∈ (numR S size).1.2, y < 256 := by
  unfold numR takeR bad
  split
  · split
    · split
      · exact h
      · intro y hy
        exact h y (List.mem_of_mem_drop hy)
    · exact h
  · split <;> exact h
/-- The reader in block B, its box in block X: all of it below block N. -/
structure Zr (w : World) (N B X : Nat) (m : Int) (S : St) : Prop where
  rd : ∃ p c, Rd w B p c S ∧ ∀ a, p = some a → a.block < N ∧ a.block ≠ X
  box : w.heap[X]? = some (.cells #[.pointer (some ⟨B, 0, none⟩), .int .i64 m] 129 (0, 0))
  ne : X ≠ B
  low : B < N ∧ X < N
  size : N ≤ w.heap.size
  small : S.2.length ≤ 1000
  bytes : ∀ y ∈ S.2, y < 256
theorem Zr.later {w w' : World} {N B X : Nat} {m : Int} {S : St} (h : Zr w N B X m S) (hc : Chg (fun k => N ≤ k) w w') : Zr w' N B X m S := by
  obtain ⟨p, c, hr, hp⟩ := h.rd
  have hs := h.size
  exact ⟨⟨p, c, hr.chg hc (by have := h.low.1; omega) (fun a ha => by have := (hp a ha).1; omega), hp⟩, (hc.block X (by have := h.low.2; omega) (by have := h.low.2; omega)).trans h.box, h.ne, h.low, Nat.le_trans hs hc.size, h.small, h.bytes⟩
theorem Zr.below {w w' : World} {N B X : Nat} {m : Int} {S : St} (h : Zr w N B X m S) (hb : Below w.heap.size w w') : Zr w' N B X m S := h.later (Chg.of_below hb)
theorem Zr.went {w w' : World} {N B X : Nat} {m : Int} {S T : St} {p : Option Addr} {c : Nat} (h : Zr w N B X m S) (hp : ∀ a, p = some a → a.block < N ∧ a.block ≠ X) (hw : Went w B p T w') (hl : T.2.length ≤ S.2.length) (hb : ∀ y ∈ T.2, y < 256) : Zr w' N B X m T ∧ Chg (fun k => k = B ∨ k = X) w w' := by
  obtain ⟨p', c', h1, h2⟩ := hw.rd
  have hs := h.size
  refine ⟨⟨⟨p', c', h1, fun a ha => ?_⟩, (hw.chg.block X (by have := h.low.2; omega) h.ne).trans h.box, h.ne, h.low, Nat.le_trans hs hw.chg.size, Nat.le_trans hl h.small, hb⟩, hw.chg.mono fun k _ hk => .inl hk⟩
  obtain ⟨a', e1, e2⟩ := h2 a ha
  rw [e2]
  exact hp a' e1
theorem z_num {w : World} {N B X : Nat} {m : Int} {S : St} (h : Zr w N B X m S) (size : Int) : Calls Tryz.prog 59 #[.pointer (some ⟨B, 0, none⟩), .int .i64 size] w fun e w' => e = .returned (.int .u64 (((numR S size).2 : Nat) : Int)) ∧ Zr w' N B X m (numR S size).1 ∧ Chg (fun k => k = B ∨ k = X) w w' := by
  obtain ⟨p, c, hr, hp⟩ := h.rd
  refine (num_any B c p S size w hr (by have := h.small; omega)).mono ?_
  rintro e w' ⟨rfl, hw⟩
  obtain ⟨h1, h2⟩ := h.went (c := c) hp hw (numR_less S size) (numR_bytes h.bytes size)
  exact ⟨rfl, h1, h2⟩
theorem z_int {w : World} {N B X : Nat} {m : Int} {S : St} (h : Zr w N B X m S) : Calls Tryz.prog 63 #[.pointer (some ⟨B, 0, none⟩)] w fun e w' => e = .returned (.int .i64 (sgn (numR S 8).2)) ∧ Zr w' N B X m (numR S 8).1 ∧ Chg (fun k => k = B ∨ k = X) w w' := by
  obtain ⟨p, c, hr, hp⟩ := h.rd
  refine (int_any B c p S w hr (by have := h.small; omega)).mono ?_
  rintro e w' ⟨rfl, hw⟩
  obtain ⟨h1, h2⟩ := h.went (c := c) hp hw (numR_less S 8) (numR_bytes h.bytes 8)
  exact ⟨rfl, h1, h2⟩
theorem z_end {w : World} {N B X : Nat} {m : Int} {S : St} (h : Zr w N B X m S) : Calls Tryz.prog 66 #[.pointer (some ⟨B, 0, none⟩)] w fun e w' => e = .returned (.int .i64 (endR S)) ∧ w = w' := by
  obtain ⟨p, c, hr, hp⟩ := h.rd
  exact end_any B c p S w hr (by have := h.small; omega)
theorem Zr.c0 {w : World} {N B X : Nat} {m : Int} {S : St} (h : Zr w N B X m S) : w.cell? ⟨X, 0, none⟩ = some (.pointer (some ⟨B, 0, none⟩)) := block_cell h.box rfl
theorem Zr.c1 {w : World} {N B X : Nat} {m : Int} {S : St} (h : Zr w N B X m S) : w.cell? ⟨X, 1, none⟩ = some (.int .i64 m) := block_cell h.box rfl
theorem Zr.free {w : World} {N B X : Nat} {m : Int} {S : St} (h : Zr w N B X m S) (j : Nat) : w.frozen? ⟨X, j, none⟩ = false := block_free j h.box
theorem Zr.mark {w : World} {N B X : Nat} {m : Int} {S : St} (h : Zr w N B X m S) (m' : Int) : Zr (w.setCell ⟨X, 1, none⟩ (.int .i64 m')) N B X m' S ∧ Chg (fun k => k = B ∨ k = X) w (w.setCell ⟨X, 1, none⟩ (.int .i64 m')) := by
  obtain ⟨p, c, hr, hp⟩ := h.rd
  have hc : Chg (fun k => k = X) w (w.setCell ⟨X, 1, none⟩ (.int .i64 m')) := (Chg.refl _ _).setCell ⟨X, 1, none⟩ _ fun _ => rfl
  have hx := block_put 1 (.int .i64 m') h.box
  refine ⟨⟨⟨p, c, hr.chg hc (fun e => h.ne e.symm) (fun a ha => (hp a ha).2), hp⟩, by simpa using hx, h.ne, h.low, Nat.le_trans h.size hc.size, h.small, h.bytes⟩, hc.mono fun k _ hk => .inr hk⟩
theorem lineR_less (S : St) : (lineR S).1.2.length ≤ S.2.length := Nat.le_trans (numR_less _ _) (numR_less _ _)
/-- What may have changed: the reader and its box alone. -/
theorem low_trans {B X : Nat} {a b c : World} (h : Chg (fun k => k = B ∨ k = X) a b) (g : Chg (fun k => k = B ∨ k = X) b c) : Chg (fun k => k = B ∨ k = X) a c := h.trans g fun _ _ h => h
theorem low_below {B X : Nat} {a b : World} (h : Below a.heap.size a b) : Chg (fun k => k = B ∨ k = X) a b := Chg.of_below h
end Go.Proofs.YtdcanppiiikjgaaGreatDoor
namespace Go.Proofs.YtdcanppiiikjgaaGreatDoor
open Go.RowKit Go.ChangeShapes Go.WideShapes
set_option linter.unusedVariables false
set_option linter.unusedSimpArgs false
set_option maxRecDepth 10000

theorem wpList_store_ln {ops : Array Oper} {rest : List Oper} {a : Act} {w : World} {Q : Exit → Act → World → Prop} {dst : Option Tmp} {x y : Operand} {ty : TypeId} {pos : String} {after : Array Edge} {B : Nat} {x0 q : Int} (hB : w.heap[B]? = some (.cells #[.int .u8 0, .int .i64 0] 110 (0, 0)))
    (hx : a.eval x = .pointer (some ⟨B, 0, none⟩)) (hy : a.eval y = .agg #[.int .u8 x0, .int .i64 q])
    (h : wpList Tryz.prog ops Q rest (a.put dst undef) (w.setRow B #[.int .u8 x0, .int .i64 q])) : wpList Tryz.prog ops Q (Oper.mk dst (.store 110 x y) ty pos after none :: rest) a w :=
  wpList_store_row rfl 110 x y rfl B #[.int .u8 x0, .int .i64 q] hx hy 110 #[.int .u8 0, .int .i64 0] hB (by kernel_rfl) rfl (by simp [Value.oneCell']) h
theorem wpList_store_tk {ops : Array Oper} {rest : List Oper} {a : Act} {w : World} {Q : Exit → Act → World → Prop} {dst : Option Tmp} {x y : Operand} {ty : TypeId} {pos : String} {after : Array Edge} {B : Nat} {x0 x1 x2 q : Int} (hB : w.heap[B]? = some (.cells #[.int .u32 0, .int .u8 0, .int .u8 0, .int .i64 0] 87 (0, 0)))
    (hx : a.eval x = .pointer (some ⟨B, 0, none⟩)) (hy : a.eval y = .agg #[.int .u32 x0, .int .u8 x1, .int .u8 x2, .int .i64 q])
    (h : wpList Tryz.prog ops Q rest (a.put dst undef) (w.setRow B #[.int .u32 x0, .int .u8 x1, .int .u8 x2, .int .i64 q])) : wpList Tryz.prog ops Q (Oper.mk dst (.store 87 x y) ty pos after none :: rest) a w :=
  wpList_store_row rfl 87 x y rfl B #[.int .u32 x0, .int .u8 x1, .int .u8 x2, .int .i64 q] hx hy 87 #[.int .u32 0, .int .u8 0, .int .u8 0, .int .i64 0] hB (by kernel_rfl) rfl (by simp [Value.oneCell']) h
set_option maxHeartbeats 4000000 in
theorem zline {w : World} {N B X : Nat} {m : Int} {S : St} (h : Zr w N B X m S) : Calls Tryz.prog 94 #[.pointer (some ⟨X, 0, none⟩)] w fun e w' => e = .returned (.agg #[.int .u8 (((numR S 1).2 : Nat) : Int), .int .i64 (sgn (numR (numR S 1).1 8).2)]) ∧ Zr w' N B X m (lineR S).1 ∧ Chg (fun k => k = B ∨ k = X) w w' := by
  have hrec : (lineR S).1 = (numR (numR S 1).1 8).1 := rfl
  rw [hrec]
  obtain ⟨R0, hR0⟩ : ∃ R, numR S 1 = R := ⟨_, rfl⟩
  rw [hR0]
  obtain ⟨R1, hR1⟩ : ∃ R, numR R0.1 8 = R := ⟨_, rfl⟩
  rw [hR1]
  have HR0 := Lib.hid hR0
  have HR1 := Lib.hid hR1
  clear hrec hR0 hR1
  obtain ⟨w1, hw1, hy, hb⟩ : ∃ w1, w.alloc (.cells #[.int .u8 0, .int .i64 0] 110) = w1 ∧ w1.heap[w.heap.size]? = some (.cells #[.int .u8 0, .int .i64 0] 110 (0, 0)) ∧ Below w.heap.size w w1 := ⟨_, rfl, alloc_block w _, (Below.refl _ _).alloc (Nat.le_refl _) _⟩
  have hsz := h.size
  have hlow := h.low
  have HZ0 := Lib.hid (h.below hb)
  have HC0 : Hid (Chg (fun k => k = B ∨ k = X) w w1) := Lib.hid (low_below hb)
  have HY0 := Lib.hid hy
  have HW1 := Lib.hid hw1
  have hlt1 := block_lt hy
  clear hw1 hy hb h
  have x0 := HZ0.out.c0
  go_enter Tryz.func94, Tryz.ntmps94
  go_upto_region 1 with (fail)
  rw [HW1.out]
  have hn0 := z_num HZ0.out 1
  rw [HR0.out] at hn0
  have hf0 : R0.2 < 256 := by have := numR_fit HZ0.out.bytes (n := 1) (by omega) (by omega); rw [show (((1 : Nat) : Int)) = 1 from rfl, HR0.out] at this; exact this
  have hx0 : IntKind.u8.wrap ((R0.2 : Nat) : Int) = (R0.2 : Nat) := by simp [IntKind.wrap, IntKind.bits, IntKind.signed]; omega
  go_wp2_with fail
  refine hn0.mono ?_
  rintro e y0 ⟨rfl, hz, hc⟩
  have HZ1 := Lib.hid hz
  have HC1 := Lib.hid (low_trans HC0.out hc)
  have HY1 := Lib.hid ((hc.block w.heap.size (by have := HZ0.out.size; have := HC0.out.size; have := block_lt HY0.out; omega) (by omega)).trans HY0.out)
  clear hz hc hn0 x0
  have x0 := HZ1.out.c0
  have hn1 := z_int HZ1.out
  rw [HR1.out] at hn1
  go_wp2_with fail
  refine hn1.mono ?_
  rintro e y1 ⟨rfl, hz, hc⟩
  have HZ2 := Lib.hid hz
  have HC2 := Lib.hid (low_trans HC1.out hc)
  have HY2 := Lib.hid ((hc.block w.heap.size (by have := HZ1.out.size; have := HC1.out.size; have := block_lt HY1.out; omega) (by omega)).trans HY1.out)
  clear hz hc hn1 x0
  have x0 := HZ2.out.c0
  obtain ⟨C, hC⟩ : ∃ C : Array Value, #[.int .u8 ((R0.2 : Nat) : Int), .int .i64 (sgn R1.2)] = C := ⟨_, rfl⟩
  have hset : Chg (fun k => N ≤ k) y1 (y1.setRow w.heap.size C) := ⟨rfl, rfl, rfl, by simp [World.setRow], fun k _ hk => setRow_other _ _ _ _ (by omega)⟩
  have HZF := Lib.hid (HZ2.out.later hset)
  have HRF := Lib.hid (setRow_heap y1 w.heap.size _ C _ _ HY2.out)
  have HCF : Hid (Chg (fun k => k = B ∨ k = X) w (y1.setRow w.heap.size C)) := Lib.hid ⟨HC2.out.os, HC2.out.tape, HC2.out.output, Nat.le_trans HC2.out.size (by simp [World.setRow]), fun k hk hn => (setRow_other _ _ _ _ (by omega)).trans (HC2.out.block k hk hn)⟩
  have HFIN : Hid ((.returned (.agg C) : Ending) = .returned (.agg #[.int .u8 ((R0.2 : Nat) : Int), .int .i64 (sgn R1.2)])) := Lib.hid (by rw [hC])
  clear hset
  subst hC
  go_wp2_with ((with_reducible refine wpList_store_ln (B := w.heap.size) (x0 := ((R0.2 : Nat) : Int)) (q := sgn R1.2) HY2.out ?_ ?_ ?_); rfl; rfl)
  (try simp only [Exit.inBlock, Exit.then])
  refine bodyPost_ret (v := .agg #[.int .u8 ((R0.2 : Nat) : Int), .int .i64 (sgn R1.2)]) ?_ rfl ⟨rfl, HZF.out, HCF.out⟩
  exact results_cell_row rfl _ _ w.heap.size 110 _ (0, 0) _ rfl HRF.out Tryz.underlying110 rfl (by kernel_rfl)
set_option maxHeartbeats 4000000 in
theorem ztake {w : World} {N B X : Nat} {m : Int} {S : St} (h : Zr w N B X m S) : Calls Tryz.prog 96 #[.pointer (some ⟨X, 0, none⟩)] w fun e w' => e = .returned (.agg #[.int .u32 (((numR S 4).2 : Nat) : Int), .int .u8 (((numR (numR S 4).1 1).2 : Nat) : Int), .int .u8 (((numR (numR (numR S 4).1 1).1 1).2 : Nat) : Int), .int .i64 (sgn (numR (numR (numR (numR S 4).1 1).1 1).1 8).2)]) ∧ Zr w' N B X m (tkR S).1 ∧ Chg (fun k => k = B ∨ k = X) w w' := by
  have hrec : (tkR S).1 = (numR (numR (numR (numR S 4).1 1).1 1).1 8).1 := rfl
  rw [hrec]
  obtain ⟨R0, hR0⟩ : ∃ R, numR S 4 = R := ⟨_, rfl⟩
  rw [hR0]
  obtain ⟨R1, hR1⟩ : ∃ R, numR R0.1 1 = R := ⟨_, rfl⟩
  rw [hR1]
  obtain ⟨R2, hR2⟩ : ∃ R, numR R1.1 1 = R := ⟨_, rfl⟩
  rw [hR2]
  obtain ⟨R3, hR3⟩ : ∃ R, numR R2.1 8 = R := ⟨_, rfl⟩
  rw [hR3]
  have HR0 := Lib.hid hR0
  have HR1 := Lib.hid hR1
  have HR2 := Lib.hid hR2
  have HR3 := Lib.hid hR3
  clear hrec hR0 hR1 hR2 hR3
  obtain ⟨w1, hw1, hy, hb⟩ : ∃ w1, w.alloc (.cells #[.int .u32 0, .int .u8 0, .int .u8 0, .int .i64 0] 87) = w1 ∧ w1.heap[w.heap.size]? = some (.cells #[.int .u32 0, .int .u8 0, .int .u8 0, .int .i64 0] 87 (0, 0)) ∧ Below w.heap.size w w1 := ⟨_, rfl, alloc_block w _, (Below.refl _ _).alloc (Nat.le_refl _) _⟩
  have hsz := h.size
  have hlow := h.low
  have HZ0 := Lib.hid (h.below hb)
  have HC0 : Hid (Chg (fun k => k = B ∨ k = X) w w1) := Lib.hid (low_below hb)
  have HY0 := Lib.hid hy
  have HW1 := Lib.hid hw1
  have hlt1 := block_lt hy
  clear hw1 hy hb h
  have x0 := HZ0.out.c0
  go_enter Tryz.func96, Tryz.ntmps96
  go_upto_region 1 with (fail)
  rw [HW1.out]
  have hn0 := z_num HZ0.out 4
  rw [HR0.out] at hn0
  have hf0 : R0.2 < 4294967296 := by have := numR_fit HZ0.out.bytes (n := 4) (by omega) (by omega); rw [show (((4 : Nat) : Int)) = 4 from rfl, HR0.out] at this; exact this
  have hx0 : IntKind.u32.wrap ((R0.2 : Nat) : Int) = (R0.2 : Nat) := by simp [IntKind.wrap, IntKind.bits, IntKind.signed]; omega
  go_wp2_with fail
  refine hn0.mono ?_
  rintro e y0 ⟨rfl, hz, hc⟩
  have HZ1 := Lib.hid hz
  have HC1 := Lib.hid (low_trans HC0.out hc)
  have HY1 := Lib.hid ((hc.block w.heap.size (by have := HZ0.out.size; have := HC0.out.size; have := block_lt HY0.out; omega) (by omega)).trans HY0.out)
  clear hz hc hn0 x0
  have x0 := HZ1.out.c0
  have hn1 := z_num HZ1.out 1
  rw [HR1.out] at hn1
  have hf1 : R1.2 < 256 := by have := numR_fit HZ1.out.bytes (n := 1) (by omega) (by omega); rw [show (((1 : Nat) : Int)) = 1 from rfl, HR1.out] at this; exact this
  have hx1 : IntKind.u8.wrap ((R1.2 : Nat) : Int) = (R1.2 : Nat) := by simp [IntKind.wrap, IntKind.bits, IntKind.signed]; omega
  go_wp2_with fail
  refine hn1.mono ?_
  rintro e y1 ⟨rfl, hz, hc⟩
  have HZ2 := Lib.hid hz
  have HC2 := Lib.hid (low_trans HC1.out hc)
  have HY2 := Lib.hid ((hc.block w.heap.size (by have := HZ1.out.size; have := HC1.out.size; have := block_lt HY1.out; omega) (by omega)).trans HY1.out)
  clear hz hc hn1 x0
  have x0 := HZ2.out.c0
  have hn2 := z_num HZ2.out 1
  rw [HR2.out] at hn2
  have hf2 : R2.2 < 256 := by have := numR_fit HZ2.out.bytes (n := 1) (by omega) (by omega); rw [show (((1 : Nat) : Int)) = 1 from rfl, HR2.out] at this; exact this
  have hx2 : IntKind.u8.wrap ((R2.2 : Nat) : Int) = (R2.2 : Nat) := by simp [IntKind.wrap, IntKind.bits, IntKind.signed]; omega
  go_wp2_with fail
  refine hn2.mono ?_
  rintro e y2 ⟨rfl, hz, hc⟩
  have HZ3 := Lib.hid hz
  have HC3 := Lib.hid (low_trans HC2.out hc)
  have HY3 := Lib.hid ((hc.block w.heap.size (by have := HZ2.out.size; have := HC2.out.size; have := block_lt HY2.out; omega) (by omega)).trans HY2.out)
  clear hz hc hn2 x0
  have x0 := HZ3.out.c0
  have hn3 := z_int HZ3.out
  rw [HR3.out] at hn3
  go_wp2_with fail
  refine hn3.mono ?_
  rintro e y3 ⟨rfl, hz, hc⟩
  have HZ4 := Lib.hid hz
  have HC4 := Lib.hid (low_trans HC3.out hc)
  have HY4 := Lib.hid ((hc.block w.heap.size (by have := HZ3.out.size; have := HC3.out.size; have := block_lt HY3.out; omega) (by omega)).trans HY3.out)
  clear hz hc hn3 x0
  have x0 := HZ4.out.c0
  obtain ⟨C, hC⟩ : ∃ C : Array Value, #[.int .u32 ((R0.2 : Nat) : Int), .int .u8 ((R1.2 : Nat) : Int), .int .u8 ((R2.2 : Nat) : Int), .int .i64 (sgn R3.2)] = C := ⟨_, rfl⟩
  have hset : Chg (fun k => N ≤ k) y3 (y3.setRow w.heap.size C) := ⟨rfl, rfl, rfl, by simp [World.setRow], fun k _ hk => setRow_other _ _ _ _ (by omega)⟩
  have HZF := Lib.hid (HZ4.out.later hset)
  have HRF := Lib.hid (setRow_heap y3 w.heap.size _ C _ _ HY4.out)
  have HCF : Hid (Chg (fun k => k = B ∨ k = X) w (y3.setRow w.heap.size C)) := Lib.hid ⟨HC4.out.os, HC4.out.tape, HC4.out.output, Nat.le_trans HC4.out.size (by simp [World.setRow]), fun k hk hn => (setRow_other _ _ _ _ (by omega)).trans (HC4.out.block k hk hn)⟩
  have HFIN : Hid ((.returned (.agg C) : Ending) = .returned (.agg #[.int .u32 ((R0.2 : Nat) : Int), .int .u8 ((R1.2 : Nat) : Int), .int .u8 ((R2.2 : Nat) : Int), .int .i64 (sgn R3.2)])) := Lib.hid (by rw [hC])
  clear hset
  subst hC
  go_wp2_with ((with_reducible refine wpList_store_tk (B := w.heap.size) (x0 := ((R0.2 : Nat) : Int)) (x1 := ((R1.2 : Nat) : Int)) (x2 := ((R2.2 : Nat) : Int)) (q := sgn R3.2) HY4.out ?_ ?_ ?_); rfl; rfl)
  (try simp only [Exit.inBlock, Exit.then])
  refine bodyPost_ret (v := .agg #[.int .u32 ((R0.2 : Nat) : Int), .int .u8 ((R1.2 : Nat) : Int), .int .u8 ((R2.2 : Nat) : Int), .int .i64 (sgn R3.2)]) ?_ rfl ⟨rfl, HZF.out, HCF.out⟩
  exact results_cell_row rfl _ _ w.heap.size 87 _ (0, 0) _ rfl HRF.out Tryz.underlying87 rfl (by kernel_rfl)
end Go.Proofs.YtdcanppiiikjgaaGreatDoor
