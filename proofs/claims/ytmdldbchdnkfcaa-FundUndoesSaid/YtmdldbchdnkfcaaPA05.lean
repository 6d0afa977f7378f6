import Derived.Test.YtmdldbchdnkfcaaPA04
import Derived.Test.YtmdldbchdnkfcaaPA03
import Derived.Test.YtmdldbchdnkfcaaPA00
namespace Go.Proofs.Ytmdldbchdnkfcaa
open Go.RowKit Go.ChangeShapes Go.WideShapes
set_option linter.unusedVariables false
set_option linter.unusedSimpArgs false
set_option maxRecDepth 10000
abbrev fcs (f : Fv) : Array Value := #[.int .i64 f.lo, .int .i64 f.hi, .int .i64 f.ba, .int .i64 f.inf, .int .i64 f.sup, .int .i64 f.va]
theorem fcells {w : World} {B : Nat} {a b c d e f : Value} {T : TypeId} (h : w.heap[B]? = some (.cells #[a, b, c, d, e, f] T (0, 0))) : w.cell? ⟨B, 0, none⟩ = some a ∧ w.cell? ⟨B, 1, none⟩ = some b ∧ w.cell? ⟨B, 2, none⟩ = some c ∧ w.cell? ⟨B, 3, none⟩ = some d ∧ w.cell? ⟨B, 4, none⟩ = some e ∧ w.cell? ⟨B, 5, none⟩ = some f :=
 ⟨block_cell h rfl, block_cell h rfl, block_cell h rfl, block_cell h rfl, block_cell h rfl, block_cell h rfl⟩
theorem ffree {w : World} {B : Nat} {cs : Array Value} {T : TypeId} (h : w.heap[B]? = some (.cells cs T (0, 0))) : w.frozen? ⟨B, 0, none⟩ = false ∧ w.frozen? ⟨B, 1, none⟩ = false ∧ w.frozen? ⟨B, 2, none⟩ = false ∧ w.frozen? ⟨B, 3, none⟩ = false ∧ w.frozen? ⟨B, 4, none⟩ = false ∧ w.frozen? ⟨B, 5, none⟩ = false :=
 ⟨block_free 0 h, block_free 1 h, block_free 2 h, block_free 3 h, block_free 4 h, block_free 5 h⟩
theorem lies_any (f : Fv) (n : Int) (w : World) :
 Calls Try.prog 60 #[.agg (fcs f), .int .i64 n] w fun e w' => e = .returned (.bool (decide (f.inf ≤ n ∧ n ≤ f.sup))) ∧ Below w.heap.size w w' := by
 obtain ⟨lo, hi, ba, inf, sup, va⟩ := f
 have HB : Hid (Below w.heap.size w (w.alloc (.cells #[.int .i64 lo, .int .i64 hi, .int .i64 ba, .int .i64 inf, .int .i64 sup, .int .i64 va] 42))) := Lib.hid ((Below.refl _ _).alloc (Nat.le_refl _) _)
 by_cases h1 : inf ≤ n
 · by_cases h2 : n ≤ sup
   · rw [show decide (inf ≤ n ∧ n ≤ sup) = true from decide_eq_true ⟨h1, h2⟩]
     go_enter Try.func60, Try.ntmps60
     go_wp2_with fail
     go_ret
     exact ⟨rfl, HB.out⟩
   · rw [show decide (inf ≤ n ∧ n ≤ sup) = false from decide_eq_false fun h => h2 h.2]
     go_enter Try.func60, Try.ntmps60
     go_wp2_with fail
     go_ret
     exact ⟨rfl, HB.out⟩
 · rw [show decide (inf ≤ n ∧ n ≤ sup) = false from decide_eq_false fun h => h1 h.1]
   go_enter Try.func60, Try.ntmps60
   go_wp2_with fail
   go_ret
   exact ⟨rfl, HB.out⟩
def ownJ (d : Int) : Nat := if 0 < d then 4 else 3
def farJ (d : Int) : Nat := if 0 < d then 3 else 4
theorem sides_any (B : Nat) (d : Int) (w : World) :
 Calls Try.prog 63 #[.pointer (some ⟨B, 0, none⟩), .int .i64 d] w fun e w' => e = .returned (.tuple #[.pointer (some ⟨B, ownJ d, none⟩), .pointer (some ⟨B, farJ d, none⟩)]) ∧ Below w.heap.size w w' := by
 have HB := Lib.hid (Below.refl w.heap.size w)
 by_cases hd : 0 < d
 · rw [show ownJ d = 4 from if_pos hd, show farJ d = 3 from if_pos hd]
   go_enter Try.func63, Try.ntmps63
   go_wp2_with fail
   go_quiet (fail)
   go_wp2_with fail
   go_ret2
   exact ⟨rfl, below_drewN HB.out _⟩
 · rw [show ownJ d = 3 from if_neg hd, show farJ d = 4 from if_neg hd]
   go_enter Try.func63, Try.ntmps63
   go_wp2_with fail
   go_quiet (fail)
   go_wp2_with fail
   go_ret2
   exact ⟨rfl, below_drewN HB.out _⟩
theorem stay_any (x d : Int) (w : World) :
 Calls Try.prog 66 #[.int .i64 x, .int .i64 d] w fun e w' => e = .returned (.tuple #[.int .i64 x, .bool true]) ∧ w = w' := by
 go_enter Try.func66, Try.ntmps66
 go_wp2_with fail
 go_ret2
 exact ⟨rfl, rfl⟩
theorem fmore_any (x d : Int) (w : World) (hx : I64 x) (hd : I64 d) :
 Calls Try.prog 67 #[.int .i64 x, .int .i64 d] w fun e w' => e = .returned (.tuple #[.int .i64 (val (x + d)), .bool (okB (x + d))]) ∧ w = w' := by
 go_enter Try.func67, Try.ntmps67
 go_wp2_with fail
 refine (add_any x d _ hx.1 hx.2 hd.1 hd.2).mono ?_
 rintro e w2 ⟨rfl, rfl⟩
 go_wp2_with fail
 go_ret2
 exact ⟨rfl, rfl⟩
theorem fless_any (x d : Int) (w : World) (hx : I64 x) (hd : I64 d) :
 Calls Try.prog 68 #[.int .i64 x, .int .i64 d] w fun e w' => e = .returned (.tuple #[.int .i64 (val (x - d)), .bool (okB (x - d))]) ∧ w = w' := by
 go_enter Try.func68, Try.ntmps68
 go_wp2_with fail
 refine (sub_any x d _ hx.1 hx.2 hd.1 hd.2).mono ?_
 rintro e w2 ⟨rfl, rfl⟩
 go_wp2_with fail
 go_ret2
 exact ⟨rfl, rfl⟩
inductive FMk : Nat → Int → Prop
 | stay : FMk 66 0
 | more : FMk 67 1
 | less : FMk 68 (-1)
theorem fpart_put (B j a : Nat) (k x d : Int) (w : World) (hk : FMk a k) (hx : I64 x) (hd : I64 d) (hc : w.cell? ⟨B, j, none⟩ = some (.int .i64 x)) (hf : w.frozen? ⟨B, j, none⟩ = false) :
 Calls Try.prog 75 #[.pointer (some ⟨B, j, none⟩), .int .i64 d, .func (.func a) #[] #[]] w fun e w' => e = .returned (.bool (okB (x + k * d))) ∧ w' = w.setCell ⟨B, j, none⟩ (.int .i64 (val (x + k * d))) := by
 cases hk with
 | stay =>
  rw [show x + 0 * d = x by omega, val_in x hx, okB_in x hx]
  go_enter Try.func75, Try.ntmps75
  go_wp2_with fail
  refine (stay_any x d _).mono ?_
  rintro e w2 ⟨rfl, rfl⟩
  go_wp2_with fail
  go_ret
  exact ⟨rfl, rfl⟩
 | more =>
  rw [show x + 1 * d = x + d by omega]
  go_enter Try.func75, Try.ntmps75
  go_wp2_with fail
  refine (fmore_any x d _ hx hd).mono ?_
  rintro e w2 ⟨rfl, rfl⟩
  go_wp2_with fail
  go_ret
  exact ⟨rfl, rfl⟩
 | less =>
  rw [show x + (-1) * d = x - d by omega]
  go_enter Try.func75, Try.ntmps75
  go_wp2_with fail
  refine (fless_any x d _ hx hd).mono ?_
  rintro e w2 ⟨rfl, rfl⟩
  go_wp2_with fail
  go_ret
  exact ⟨rfl, rfl⟩
theorem fgood_any (f : Fv) (w : World) :
 Calls Try.prog 40 #[.agg (fcs f)] w fun e w' => e = .returned (.bool (goodF f)) ∧ Below w.heap.size w w' := by
 have hl := lies_any f
 obtain ⟨lo, hi, ba, inf, sup, va⟩ := f
 have HB : Hid (Below w.heap.size w (w.alloc (.cells #[.int .i64 lo, .int .i64 hi, .int .i64 ba, .int .i64 inf, .int .i64 sup, .int .i64 va] 42))) := Lib.hid ((Below.refl _ _).alloc (Nat.le_refl _) _)
 have HX : Hid ((w.alloc (.cells #[.int .i64 lo, .int .i64 hi, .int .i64 ba, .int .i64 inf, .int .i64 sup, .int .i64 va] 42)).heap[w.heap.size]? = some (.cells #[.int .i64 lo, .int .i64 hi, .int .i64 ba, .int .i64 inf, .int .i64 sup, .int .i64 va] 42 (0, 0))) := Lib.hid (alloc_block _ _)
 by_cases h1 : lo ≤ inf
 · by_cases h2 : inf ≤ ba ∧ ba ≤ sup
   · have d1 := decide_eq_true h2
     by_cases h3 : inf ≤ va ∧ va ≤ sup
     · have d2 := decide_eq_true h3
       rw [show goodF ⟨lo, hi, ba, inf, sup, va⟩ = decide (sup ≤ hi) by (simp [goodF, h1, h2, h3])]
       go_enter Try.func40, Try.ntmps40
       go_wp2_with fail
       refine (hl ba _).mono ?_
       rintro e w2 ⟨rfl, hb⟩
       rw [show decide (inf ≤ ba ∧ ba ≤ sup) = true from d1]
       have HX2 := Lib.hid (block_later HX.out hb)
       have HB2 := Lib.hid (HB.out.trans (hb.mono HB.out.size))
       obtain ⟨q0, q1, q2, q3, q4, q5⟩ := fcells HX2.out
       clear hb
       go_wp2_with fail
       clear q0 q1 q2 q3 q4 q5
       refine (hl va _).mono ?_
       rintro e w3 ⟨rfl, hb⟩
       rw [show decide (inf ≤ va ∧ va ≤ sup) = true from d2]
       have HX3 := Lib.hid (block_later HX2.out hb)
       have HB3 := Lib.hid (HB2.out.trans (hb.mono HB2.out.size))
       obtain ⟨q0, q1, q2, q3, q4, q5⟩ := fcells HX3.out
       clear hb
       go_wp2_with fail
       go_ret
       exact ⟨rfl, HB3.out⟩
     · have d2 := decide_eq_false h3
       rw [show goodF ⟨lo, hi, ba, inf, sup, va⟩ = false by (simp [goodF]; omega)]
       go_enter Try.func40, Try.ntmps40
       go_wp2_with fail
       refine (hl ba _).mono ?_
       rintro e w2 ⟨rfl, hb⟩
       rw [show decide (inf ≤ ba ∧ ba ≤ sup) = true from d1]
       have HX2 := Lib.hid (block_later HX.out hb)
       have HB2 := Lib.hid (HB.out.trans (hb.mono HB.out.size))
       obtain ⟨q0, q1, q2, q3, q4, q5⟩ := fcells HX2.out
       clear hb
       go_wp2_with fail
       clear q0 q1 q2 q3 q4 q5
       refine (hl va _).mono ?_
       rintro e w3 ⟨rfl, hb⟩
       rw [show decide (inf ≤ va ∧ va ≤ sup) = false from d2]
       have HX3 := Lib.hid (block_later HX2.out hb)
       have HB3 := Lib.hid (HB2.out.trans (hb.mono HB2.out.size))
       obtain ⟨q0, q1, q2, q3, q4, q5⟩ := fcells HX3.out
       clear hb
       go_wp2_with fail
       go_ret
       exact ⟨rfl, HB3.out⟩
   · have d1 := decide_eq_false h2
     rw [show goodF ⟨lo, hi, ba, inf, sup, va⟩ = false by (simp [goodF]; omega)]
     go_enter Try.func40, Try.ntmps40
     go_wp2_with fail
     refine (hl ba _).mono ?_
     rintro e w2 ⟨rfl, hb⟩
     rw [show decide (inf ≤ ba ∧ ba ≤ sup) = false from d1]
     have HX2 := Lib.hid (block_later HX.out hb)
     have HB2 := Lib.hid (HB.out.trans (hb.mono HB.out.size))
     obtain ⟨q0, q1, q2, q3, q4, q5⟩ := fcells HX2.out
     clear hb
     go_wp2_with fail
     go_ret
     exact ⟨rfl, HB2.out⟩
 · rw [show goodF ⟨lo, hi, ba, inf, sup, va⟩ = false by (simp [goodF, h1])]
   go_enter Try.func40, Try.ntmps40
   go_wp2_with fail
   go_ret
   exact ⟨rfl, HB.out⟩
theorem rgood_any (f : Fv) (w : World) :
 Calls Try.prog 37 #[.agg (fcs f)] w fun e w' => e = .returned (.bool (goodF f)) ∧ Below w.heap.size w w' := by
 obtain ⟨lo, hi, ba, inf, sup, va⟩ := f
 have HB : Hid (Below w.heap.size w (w.alloc (.cells #[.int .i64 lo, .int .i64 hi, .int .i64 ba, .int .i64 inf, .int .i64 sup, .int .i64 va] 42))) := Lib.hid ((Below.refl _ _).alloc (Nat.le_refl _) _)
 by_cases g0 : lo ≤ inf
 · by_cases g1 : inf ≤ ba
   · by_cases g2 : inf ≤ va
     · by_cases g3 : ba ≤ sup
       · by_cases g4 : va ≤ sup
         · by_cases g5 : sup ≤ hi
           · rw [show goodF ⟨lo, hi, ba, inf, sup, va⟩ = true by (simp [goodF, g0, g1, g2, g3, g4, g5])]
             go_enter Try.func37, Try.ntmps37
             go_wp2_with fail
             go_ret
             exact ⟨rfl, HB.out⟩
           · rw [show goodF ⟨lo, hi, ba, inf, sup, va⟩ = false by (simp [goodF, g5])]
             go_enter Try.func37, Try.ntmps37
             go_wp2_with fail
             go_ret
             exact ⟨rfl, HB.out⟩
         · rw [show goodF ⟨lo, hi, ba, inf, sup, va⟩ = false by (simp [goodF, g4])]
           go_enter Try.func37, Try.ntmps37
           go_wp2_with fail
           go_ret
           exact ⟨rfl, HB.out⟩
       · rw [show goodF ⟨lo, hi, ba, inf, sup, va⟩ = false by (simp [goodF, g3])]
         go_enter Try.func37, Try.ntmps37
         go_wp2_with fail
         go_ret
         exact ⟨rfl, HB.out⟩
     · rw [show goodF ⟨lo, hi, ba, inf, sup, va⟩ = false by (simp [goodF, g2])]
       go_enter Try.func37, Try.ntmps37
       go_wp2_with fail
       go_ret
       exact ⟨rfl, HB.out⟩
   · rw [show goodF ⟨lo, hi, ba, inf, sup, va⟩ = false by (simp [goodF, g1])]
     go_enter Try.func37, Try.ntmps37
     go_wp2_with fail
     go_ret
     exact ⟨rfl, HB.out⟩
 · rw [show goodF ⟨lo, hi, ba, inf, sup, va⟩ = false by (simp [goodF, g0])]
   go_enter Try.func37, Try.ntmps37
   go_wp2_with fail
   go_ret
   exact ⟨rfl, HB.out⟩
theorem wrong_any (f : Fv) (d : Int) (w : World) (hd : I64 d) :
 Calls Try.prog 62 #[.agg (fcs f), .int .i64 d] w fun e w' => e = .returned (.int .i64 (firstF f d)) ∧ Below w.heap.size w w' := by
 have hg := fgood_any f
 obtain ⟨hd0, hd1⟩ := hd
 have HE : Hid (∀ b, goodF f = b → firstF f d = if b = true then (if d = 0 ∨ d = -9223372036854775808 then 1 else 0) else 12) := Lib.hid (by intro b hb; subst hb; rfl)
 generalize goodF f = b at *
 generalize firstF f d = z at *
 obtain ⟨lo, hi, ba, inf, sup, va⟩ := f
 have HB : Hid (Below w.heap.size w (w.alloc (.cells #[.int .i64 lo, .int .i64 hi, .int .i64 ba, .int .i64 inf, .int .i64 sup, .int .i64 va] 42))) := Lib.hid ((Below.refl _ _).alloc (Nat.le_refl _) _)
 have HE1 := Lib.hid (HE.out b rfl)
 clear HE
 cases b with
 | false =>
  have he : z = 12 := HE1.out
  subst he
  clear HE1
  go_enter Try.func62, Try.ntmps62
  go_wp2_with fail
  refine (hg _).mono ?_
  rintro e w2 ⟨rfl, hb⟩
  have HB2 := Lib.hid (HB.out.trans (hb.mono HB.out.size))
  clear hb
  go_wp2_with fail
  go_ret
  exact ⟨rfl, HB2.out⟩
 | true =>
  by_cases z0 : d = 0
  · have he : z = 1 := HE1.out.trans ((if_pos rfl).trans (if_pos (Or.inl z0)))
    subst he
    subst z0
    clear HE1
    go_enter Try.func62, Try.ntmps62
    go_wp2_with fail
    refine (hg _).mono ?_
    rintro e w2 ⟨rfl, hb⟩
    have HB2 := Lib.hid (HB.out.trans (hb.mono HB.out.size))
    clear hb
    go_wp2_with fail
    go_ret
    exact ⟨rfl, HB2.out⟩
  · have s1 : (d == 0) = false := by simpa using z0
    by_cases zm : d = -9223372036854775808
    · have he : z = 1 := HE1.out.trans ((if_pos rfl).trans (if_pos (Or.inr zm)))
      subst he
      subst zm
      clear HE1
      go_enter Try.func62, Try.ntmps62
      go_wp2_with fail
      refine (hg _).mono ?_
      rintro e w2 ⟨rfl, hb⟩
      have HB2 := Lib.hid (HB.out.trans (hb.mono HB.out.size))
      clear hb
      go_wp2_with fail
      go_ret
      exact ⟨rfl, HB2.out⟩
    · have s2 : (d == -9223372036854775808) = false := by simpa using zm
      have s3 : ¬ d < -9223372036854775807 := by omega
      have he : z = 0 := HE1.out.trans ((if_pos rfl).trans (if_neg (by omega)))
      subst he
      have ZO := Lib.hid z0
      have ZM := Lib.hid zm
      clear HE1 z0 zm
      go_enter Try.func62, Try.ntmps62
      go_wp2_with fail
      refine (hg _).mono ?_
      rintro e w2 ⟨rfl, hb⟩
      have HB2 := Lib.hid (HB.out.trans (hb.mono HB.out.size))
      clear hb
      go_wp2_with fail
      go_ret
      exact ⟨rfl, HB2.out⟩
theorem rfirst_any (f : Fv) (d : Int) (w : World) (hd : I64 d) :
 Calls Try.prog 49 #[.agg (fcs f), .int .i64 d] w fun e w' => e = .returned (.int .i64 (firstF f d)) ∧ Below w.heap.size w w' := by
 have hg := rgood_any f
 obtain ⟨hd0, hd1⟩ := hd
 have HE : Hid (∀ b, goodF f = b → firstF f d = if b = true then (if d = 0 ∨ d = -9223372036854775808 then 1 else 0) else 12) := Lib.hid (by intro b hb; subst hb; rfl)
 generalize goodF f = b at *
 generalize firstF f d = z at *
 obtain ⟨lo, hi, ba, inf, sup, va⟩ := f
 have HB : Hid (Below w.heap.size w (w.alloc (.cells #[.int .i64 lo, .int .i64 hi, .int .i64 ba, .int .i64 inf, .int .i64 sup, .int .i64 va] 42))) := Lib.hid ((Below.refl _ _).alloc (Nat.le_refl _) _)
 have HE1 := Lib.hid (HE.out b rfl)
 clear HE
 cases b with
 | false =>
  have he : z = 12 := HE1.out
  subst he
  clear HE1
  go_enter Try.func49, Try.ntmps49
  go_wp2_with fail
  refine (hg _).mono ?_
  rintro e w2 ⟨rfl, hb⟩
  have HB2 := Lib.hid (HB.out.trans (hb.mono HB.out.size))
  clear hb
  go_wp2_with fail
  go_ret
  exact ⟨rfl, HB2.out⟩
 | true =>
  by_cases z0 : d = 0
  · have he : z = 1 := HE1.out.trans ((if_pos rfl).trans (if_pos (Or.inl z0)))
    subst he
    subst z0
    clear HE1
    go_enter Try.func49, Try.ntmps49
    go_wp2_with fail
    refine (hg _).mono ?_
    rintro e w2 ⟨rfl, hb⟩
    have HB2 := Lib.hid (HB.out.trans (hb.mono HB.out.size))
    clear hb
    go_wp2_with fail
    go_ret
    exact ⟨rfl, HB2.out⟩
  · have s1 : (d == 0) = false := by simpa using z0
    by_cases zm : d = -9223372036854775808
    · have he : z = 1 := HE1.out.trans ((if_pos rfl).trans (if_pos (Or.inr zm)))
      subst he
      subst zm
      clear HE1
      go_enter Try.func49, Try.ntmps49
      go_wp2_with fail
      refine (hg _).mono ?_
      rintro e w2 ⟨rfl, hb⟩
      have HB2 := Lib.hid (HB.out.trans (hb.mono HB.out.size))
      clear hb
      go_wp2_with fail
      go_ret
      exact ⟨rfl, HB2.out⟩
    · have s2 : (d == -9223372036854775808) = false := by simpa using zm
      have s3 : ¬ d < -9223372036854775807 := by omega
      have he : z = 0 := HE1.out.trans ((if_pos rfl).trans (if_neg (by omega)))
      subst he
      have ZO := Lib.hid z0
      have ZM := Lib.hid zm
      clear HE1 z0 zm
      go_enter Try.func49, Try.ntmps49
      go_wp2_with fail
      refine (hg _).mono ?_
      rintro e w2 ⟨rfl, hb⟩
      have HB2 := Lib.hid (HB.out.trans (hb.mono HB.out.size))
      clear hb
      go_wp2_with fail
      go_ret
      exact ⟨rfl, HB2.out⟩
theorem results_ff {fn : Func} {p u : Tmp} (h : fn.results = #[.cell p 42, .tmp u]) (tmps : Array Value) (W : World) (R : Nat) (cs : Array Value) (hs : cs.size = 6) (v : Value) (hp : tmps.getD p undef = .pointer (some ⟨R, 0, none⟩)) (hv : tmps.getD u undef = v)
 (hB : W.heap[R]? = some (.cells cs 42 (0, 0))) : (results fn tmps).run Try.prog W = .ok (.tuple #[.agg cs, v]) W := by
 rw [results_cell_tmp h, hp, hv]
 simp [asAddr, Result.andThen, run_loadVar_row W R 42 42 cs (0, 0) _ hB Try.underlying42 rfl (by rw [hs]; kernel_rfl)]
theorem fstored {w : World} {B : Nat} {a b c d e f a' b' c' d' e' f' : Value} {T : TypeId} (h : w.heap[B]? = some (.cells #[a, b, c, d, e, f] T (0, 0))) :
 ((((((w.setCell ⟨B, 0, none⟩ a').setCell ⟨B, 1, none⟩ b').setCell ⟨B, 2, none⟩ c').setCell ⟨B, 3, none⟩ d').setCell ⟨B, 4, none⟩ e').setCell ⟨B, 5, none⟩ f').heap[B]? = some (.cells #[a', b', c', d', e', f'] T (0, 0)) :=
 block_put 5 f' (block_put 4 e' (block_put 3 d' (block_put 2 c' (block_put 1 b' (block_put 0 a' h)))))
theorem fkept {W w : World} {B : Nat} (h : Below W.heap.size W w) (hB : W.heap.size ≤ B) (a' b' c' d' e' f' : Value) : Below W.heap.size W ((((((w.setCell ⟨B, 0, none⟩ a').setCell ⟨B, 1, none⟩ b').setCell ⟨B, 2, none⟩ c').setCell ⟨B, 3, none⟩ d').setCell ⟨B, 4, none⟩ e').setCell ⟨B, 5, none⟩ f') :=
 (((((h.setCell hB _).setCell hB _).setCell hB _).setCell hB _).setCell hB _).setCell hB _
theorem fthree (W : World) (c0 c1 c2 : Array Value) (t0 t1 t2 : TypeId) :
 Below W.heap.size W (((W.alloc (.cells c0 t0)).alloc (.cells c1 t1)).alloc (.cells c2 t2)) ∧ (((W.alloc (.cells c0 t0)).alloc (.cells c1 t1)).alloc (.cells c2 t2)).heap[W.heap.size]? = some (.cells c0 t0 (0, 0)) ∧
 (((W.alloc (.cells c0 t0)).alloc (.cells c1 t1)).alloc (.cells c2 t2)).heap[W.heap.size + 1]? = some (.cells c1 t1 (0, 0)) ∧ (((W.alloc (.cells c0 t0)).alloc (.cells c1 t1)).alloc (.cells c2 t2)).heap[W.heap.size + 2]? = some (.cells c2 t2 (0, 0)) := by
 have s1 : (W.alloc (.cells c0 t0)).heap.size = W.heap.size + 1 := by simp
 have s2 : ((W.alloc (.cells c0 t0)).alloc (.cells c1 t1)).heap.size = W.heap.size + 2 := by simp
 have h0 := alloc_block W (.cells c0 t0)
 have h1 := alloc_block (W.alloc (.cells c0 t0)) (.cells c1 t1)
 have h2 := alloc_block ((W.alloc (.cells c0 t0)).alloc (.cells c1 t1)) (.cells c2 t2)
 rw [s1] at h1
 rw [s2] at h2
 have b1 : Below (W.alloc (.cells c0 t0)).heap.size (W.alloc (.cells c0 t0)) ((W.alloc (.cells c0 t0)).alloc (.cells c1 t1)) := (Below.refl _ _).alloc (Nat.le_refl _) _
 have b2 : Below ((W.alloc (.cells c0 t0)).alloc (.cells c1 t1)).heap.size ((W.alloc (.cells c0 t0)).alloc (.cells c1 t1)) (((W.alloc (.cells c0 t0)).alloc (.cells c1 t1)).alloc (.cells c2 t2)) := (Below.refl _ _).alloc (Nat.le_refl _) _
 exact ⟨(((Below.refl _ _).alloc (Nat.le_refl _) _).alloc (by omega) _).alloc (by omega) _, block_later (block_later h0 b1) b2, block_later h1 b2, h2⟩
structure Ap (W w : World) (X C R G : Nat) (f : Fv) (a b c e : Nat) (cs : Array Value) : Prop where
 x : w.heap[X]? = some (.cells (fcs f) 42 (0, 0))
 c : w.heap[C]? = some (.cells #[.func (.func a) #[] #[], .func (.func b) #[] #[], .func (.func c) #[] #[], .func (.func e) #[] #[]] 104 (0, 0))
 r : w.heap[R]? = some (.cells #[.int .i64 0, .int .i64 0, .int .i64 0, .int .i64 0, .int .i64 0, .int .i64 0] 42 (0, 0))
 g : w.heap[G]? = some (.cells cs 42 (0, 0))
 below : Below W.heap.size W w
 ord : W.heap.size ≤ X ∧ X < C ∧ C < R ∧ R < G
theorem Ap.later {W w w' : World} {X C R G : Nat} {f : Fv} {a b c e : Nat} {cs : Array Value} (h : Ap W w X C R G f a b c e cs) (hb : Below w.heap.size w w') : Ap W w' X C R G f a b c e cs :=
 ⟨block_later h.x hb, block_later h.c hb, block_later h.r hb, block_later h.g hb, h.below.trans (hb.mono h.below.size), h.ord⟩
theorem Ap.put {W w : World} {X C R G : Nat} {f : Fv} {a b c e : Nat} {cs : Array Value} (h : Ap W w X C R G f a b c e cs) (j : Nat) (v : Value) : Ap W (w.setCell ⟨G, j, none⟩ v) X C R G f a b c e (cs.setIfInBounds j v) := by
 have ho := h.ord
 have hc : Chg (fun k => k = G) w (w.setCell ⟨G, j, none⟩ v) := (Chg.refl _ _).setCell _ _ fun _ => rfl
 exact ⟨(hc.block X (block_lt h.x) (by omega)).trans h.x, (hc.block C (block_lt h.c) (by omega)).trans h.c, (hc.block R (block_lt h.r) (by omega)).trans h.r, block_put j v h.g, hc.below h.below h.below.size fun k hk => by omega, ho⟩
theorem ccells {w : World} {B : Nat} {a b c d : Value} {T : TypeId} (h : w.heap[B]? = some (.cells #[a, b, c, d] T (0, 0))) : w.cell? ⟨B, 0, none⟩ = some a ∧ w.cell? ⟨B, 1, none⟩ = some b ∧ w.cell? ⟨B, 2, none⟩ = some c ∧ w.cell? ⟨B, 3, none⟩ = some d :=
 ⟨block_cell h rfl, block_cell h rfl, block_cell h rfl, block_cell h rfl⟩
theorem move_out {f : Fv} {d mv mb mn mf : Int} (h0 : firstF f d = 0) (h : ¬ (Fok (moveG f d mv mb mn mf) ∧ goodF (moveG f d mv mb mn mf) = true)) : moveF f d mv mb mn mf = f ∧ moveE f d mv mb mn mf = 12 := by
 refine ⟨move_bad fun h' => h h'.2, ?_⟩
 unfold moveE
 rw [if_neg (by omega), if_neg h]
theorem apply_first (f : Fv) (d kb kv ko kf : Int) (a b c e : Nat) (W : World) (hd : I64 d) (h0 : firstF f d ≠ 0) :
 Calls Try.prog 65 #[.agg (fcs f), .int .i64 d, .agg #[.func (.func a) #[] #[], .func (.func b) #[] #[], .func (.func c) #[] #[], .func (.func e) #[] #[]]] W fun r w' => r = .returned (.tuple #[.agg (fcs (moveF f d kv kb kf ko)), .int .i64 (moveE f d kv kb kf ko)]) ∧ Below W.heap.size W w' := by
 rw [show moveF f d kv kb kf ko = f from move_bad fun h => h0 h.1, show moveE f d kv kb kf ko = firstF f d from if_pos h0]
 have HW := Lib.hid fun W => wrong_any f d W hd
 have z1 : (firstF f d != 0) = true := by simpa using h0
 generalize firstF f d = z at *
 obtain ⟨lo, hi, ba, inf, sup, va⟩ := f
 obtain ⟨hb0, hx0, hc0, hr0⟩ := fthree W #[.int .i64 lo, .int .i64 hi, .int .i64 ba, .int .i64 inf, .int .i64 sup, .int .i64 va] #[.func (.func a) #[] #[], .func (.func b) #[] #[], .func (.func c) #[] #[], .func (.func e) #[] #[]] #[.int .i64 0, .int .i64 0, .int .i64 0, .int .i64 0, .int .i64 0, .int .i64 0] 42 104 42
 have HB0 := Lib.hid hb0
 have HX0 := Lib.hid hx0
 have HR0 := Lib.hid hr0
 clear hb0 hx0 hc0 hr0
 go_enter Try.func65, Try.ntmps65
 go_wp2_with fail
 refine (HW.out _).mono ?_
 rintro e1 w1 ⟨rfl, hb1⟩
 have HB1 := Lib.hid (HB0.out.trans (hb1.mono HB0.out.size))
 have HX1 := Lib.hid (block_later HX0.out hb1)
 have HR1 := Lib.hid (block_later HR0.out hb1)
 obtain ⟨q0, q1, q2, q3, q4, q5⟩ := fcells HX1.out
 obtain ⟨r0, r1, r2, r3, r4, r5⟩ := fcells HR1.out
 obtain ⟨f0, f1, f2, f3, f4, f5⟩ := ffree HR1.out
 have HF := Lib.hid (fstored (a' := .int .i64 lo) (b' := .int .i64 hi) (c' := .int .i64 ba) (d' := .int .i64 inf) (e' := .int .i64 sup) (f' := .int .i64 va) HR1.out)
 have HG := Lib.hid (fkept HB1.out (show W.heap.size ≤ W.heap.size + 2 by omega) (.int .i64 lo) (.int .i64 hi) (.int .i64 ba) (.int .i64 inf) (.int .i64 sup) (.int .i64 va))
 have H0 := Lib.hid h0
 clear hb1 h0
 go_wp2_with fail
 refine bodyPost_ret (v := .tuple #[.agg #[.int .i64 lo, .int .i64 hi, .int .i64 ba, .int .i64 inf, .int .i64 sup, .int .i64 va], .int .i64 z]) ?_ rfl ⟨rfl, HG.out⟩
 exact results_ff rfl _ _ (W.heap.size + 2) _ rfl _ rfl rfl HF.out
end Go.Proofs.Ytmdldbchdnkfcaa
