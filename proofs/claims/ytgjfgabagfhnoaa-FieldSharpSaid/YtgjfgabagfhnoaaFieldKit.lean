/- A field in memory; Good, the program's and the document's; what is wrong ahead of all else; an addition's sides; the changes. -/
import Derived.Test.YtgjfgabagfhnoaaFieldMath
import Derived.Test.YtgjfgabagfhnoaaCalcPairs
import Derived.Test.YtgjfgabagfhnoaaBase
namespace Go.Proofs.Ytgjfgabagfhnoaa
open Go.RowKit Go.ChangeShapes Go.WideShapes
set_option linter.unusedVariables false
set_option linter.unusedSimpArgs false
set_option maxRecDepth 10000

/-- A field's cells. -/
abbrev fcs (f : Fv) : Array Value := #[.int .i64 f.lo, .int .i64 f.hi, .int .i64 f.ba, .int .i64 f.inf, .int .i64 f.sup, .int .i64 f.va]
theorem fcells {w : World} {B : Nat} {a b c d e f : Value} {T : TypeId} (h : w.heap[B]? = some (.cells #[a, b, c, d, e, f] T (0, 0))) : w.cell? ⟨B, 0, none⟩ = some a ∧ w.cell? ⟨B, 1, none⟩ = some b ∧ w.cell? ⟨B, 2, none⟩ = some c ∧ w.cell? ⟨B, 3, none⟩ = some d ∧ w.cell? ⟨B, 4, none⟩ = some e ∧ w.cell? ⟨B, 5, none⟩ = some f :=
  ⟨block_cell h rfl, block_cell h rfl, block_cell h rfl, block_cell h rfl, block_cell h rfl, block_cell h rfl⟩
theorem ffree {w : World} {B : Nat} {cs : Array Value} {T : TypeId} (h : w.heap[B]? = some (.cells cs T (0, 0))) : w.frozen? ⟨B, 0, none⟩ = false ∧ w.frozen? ⟨B, 1, none⟩ = false ∧ w.frozen? ⟨B, 2, none⟩ = false ∧ w.frozen? ⟨B, 3, none⟩ = false ∧ w.frozen? ⟨B, 4, none⟩ = false ∧ w.frozen? ⟨B, 5, none⟩ = false :=
  ⟨block_free 0 h, block_free 1 h, block_free 2 h, block_free 3 h, block_free 4 h, block_free 5 h⟩
theorem lies_any (f : Fv) (n : Int) (w : World) :
    Calls Try.prog 29 #[.agg (fcs f), .int .i64 n] w fun e w' => e = .returned (.bool (decide (f.inf ≤ n ∧ n ≤ f.sup))) ∧ Below w.heap.size w w' := by
  obtain ⟨lo, hi, ba, inf, sup, va⟩ := f
  have HB : Hid (Below w.heap.size w (w.alloc (.cells #[.int .i64 lo, .int .i64 hi, .int .i64 ba, .int .i64 inf, .int .i64 sup, .int .i64 va] 23))) := Lib.hid ((Below.refl _ _).alloc (Nat.le_refl _) _)
  by_cases h1 : inf ≤ n
  · by_cases h2 : n ≤ sup
    · rw [show decide (inf ≤ n ∧ n ≤ sup) = true from decide_eq_true ⟨h1, h2⟩]
      go_enter Try.func29, Try.ntmps29
      go_wp2_with fail
      go_ret
      exact ⟨rfl, HB.out⟩
    · rw [show decide (inf ≤ n ∧ n ≤ sup) = false from decide_eq_false fun h => h2 h.2]
      go_enter Try.func29, Try.ntmps29
      go_wp2_with fail
      go_ret
      exact ⟨rfl, HB.out⟩
  · rw [show decide (inf ≤ n ∧ n ≤ sup) = false from decide_eq_false fun h => h1 h.1]
    go_enter Try.func29, Try.ntmps29
    go_wp2_with fail
    go_ret
    exact ⟨rfl, HB.out⟩
/-- An addition's own side of a field, and its far one. -/
def ownJ (d : Int) : Nat := if 0 < d then 4 else 3
def farJ (d : Int) : Nat := if 0 < d then 3 else 4
theorem sides_any (B : Nat) (d : Int) (w : World) :
    Calls Try.prog 31 #[.pointer (some ⟨B, 0, none⟩), .int .i64 d] w fun e w' => e = .returned (.tuple #[.pointer (some ⟨B, ownJ d, none⟩), .pointer (some ⟨B, farJ d, none⟩)]) ∧ Below w.heap.size w w' := by
  have HB := Lib.hid (Below.refl w.heap.size w)
  by_cases hd : 0 < d
  · rw [show ownJ d = 4 from if_pos hd, show farJ d = 3 from if_pos hd]
    go_enter Try.func31, Try.ntmps31
    go_wp2_with fail
    go_quiet (fail)
    go_wp2_with fail
    go_ret2
    exact ⟨rfl, below_drewN HB.out _⟩
  · rw [show ownJ d = 3 from if_neg hd, show farJ d = 4 from if_neg hd]
    go_enter Try.func31, Try.ntmps31
    go_wp2_with fail
    go_quiet (fail)
    go_wp2_with fail
    go_ret2
    exact ⟨rfl, below_drewN HB.out _⟩
theorem stay_any (x d : Int) (w : World) :
    Calls Try.prog 34 #[.int .i64 x, .int .i64 d] w fun e w' => e = .returned (.tuple #[.int .i64 x, .bool true]) ∧ w = w' := by
  go_enter Try.func34, Try.ntmps34
  go_wp2_with fail
  go_ret2
  exact ⟨rfl, rfl⟩
theorem more_any (x d : Int) (w : World) (hx : I64 x) (hd : I64 d) :
    Calls Try.prog 35 #[.int .i64 x, .int .i64 d] w fun e w' => e = .returned (.tuple #[.int .i64 (val (x + d)), .bool (okB (x + d))]) ∧ w = w' := by
  go_enter Try.func35, Try.ntmps35
  go_wp2_with fail
  refine (add_any x d _ hx.1 hx.2 hd.1 hd.2).mono ?_
  rintro e w2 ⟨rfl, rfl⟩
  go_wp2_with fail
  go_ret2
  exact ⟨rfl, rfl⟩
theorem less_any (x d : Int) (w : World) (hx : I64 x) (hd : I64 d) :
    Calls Try.prog 36 #[.int .i64 x, .int .i64 d] w fun e w' => e = .returned (.tuple #[.int .i64 (val (x - d)), .bool (okB (x - d))]) ∧ w = w' := by
  go_enter Try.func36, Try.ntmps36
  go_wp2_with fail
  refine (sub_any x d _ hx.1 hx.2 hd.1 hd.2).mono ?_
  rintro e w2 ⟨rfl, rfl⟩
  go_wp2_with fail
  go_ret2
  exact ⟨rfl, rfl⟩
/-- A change's function, and how many times it takes the addition. -/
inductive Mk : Nat → Int → Prop
  | stay : Mk 34 0
  | more : Mk 35 1
  | less : Mk 36 (-1)
theorem put_any (B j a : Nat) (k x d : Int) (w : World) (hk : Mk a k) (hx : I64 x) (hd : I64 d) (hc : w.cell? ⟨B, j, none⟩ = some (.int .i64 x)) (hf : w.frozen? ⟨B, j, none⟩ = false) :
    Calls Try.prog 40 #[.pointer (some ⟨B, j, none⟩), .int .i64 d, .func (.func a) #[] #[]] w fun e w' => e = .returned (.bool (okB (x + k * d))) ∧ w' = w.setCell ⟨B, j, none⟩ (.int .i64 (val (x + k * d))) := by
  cases hk with
  | stay =>
    rw [show x + 0 * d = x by omega, val_in x hx, okB_in x hx]
    go_enter Try.func40, Try.ntmps40
    go_wp2_with fail
    refine (stay_any x d _).mono ?_
    rintro e w2 ⟨rfl, rfl⟩
    go_wp2_with fail
    go_ret
    exact ⟨rfl, rfl⟩
  | more =>
    rw [show x + 1 * d = x + d by omega]
    go_enter Try.func40, Try.ntmps40
    go_wp2_with fail
    refine (more_any x d _ hx hd).mono ?_
    rintro e w2 ⟨rfl, rfl⟩
    go_wp2_with fail
    go_ret
    exact ⟨rfl, rfl⟩
  | less =>
    rw [show x + (-1) * d = x - d by omega]
    go_enter Try.func40, Try.ntmps40
    go_wp2_with fail
    refine (less_any x d _ hx hd).mono ?_
    rintro e w2 ⟨rfl, rfl⟩
    go_wp2_with fail
    go_ret
    exact ⟨rfl, rfl⟩
end Go.Proofs.Ytgjfgabagfhnoaa
