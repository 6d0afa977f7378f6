/- Keys as plain numbers: which there are, where each stands, how two are held against each other. -/
/- The smallest calls of layer key. -/
/- Good, Place: whether there is a key, and where it stands. -/
/- Two keys held against each other: the program's way and the document's. -/
/- A key that came in. -/
/- A block in a world: its cells, what a store leaves of it; a key's block. -/
/- Two keys, as values, the same or not. -/
/- Lists of keys in memory: those that are read, those that grow. -/
/- All keys, as the program lists them. -/
/- A region that draws its order, whose calls leave old memory as it was: walked once. -/
/- The document's answers on which keys there are: Good, Same, All, Place. -/
/- Keys in order, each once: the document's way, one at its place after another. -/
/- Maps by keys: what a key reads as; the set of the keys that were there. -/
import Derived.Test.YtdcanppiiikjgaaGreatDoorRows
import Derived.RowKit
import Derived.WalkKit
import Derived.ProofKit
import Derived.Below
import Derived.Lib.Hide
import Derived.WalkSpells
import Derived.LoopTactic
import Derived.StillTailTactics
import Derived.Sort.Grow
import Derived.Deep.Draws
import Derived.Deep.QuietTactic
import Derived.BigQuiet
import Derived.MakeChecks
import Derived.ChangeSame
import Derived.OpenShut
import Derived.Lib.SmallJoins
import Derived.Laws.ResultCell
import Derived.Laws.StructEq
import Derived.Test.YtdcanppiiikjgaaGreatDoorGrBase
import Derived.OwnWalk
import Derived.ArgAppend
import Derived.Deep.OwnRows
import Derived.Deep.Slices
import Derived.Deep.Fields
import Derived.Laws.AppendOwn
import Derived.Deep.LoopGhost
import Derived.Maps.OwnSet
import Derived.DeepKeys4
namespace Go.Proofs.YtdcanppiiikjgaaGreatDoor
open Go.RowKit
set_option linter.unusedVariables false
set_option maxRecDepth 10000

/-- A key: its kind, its article, its warehouse. -/
abbrev K := Int × Int × Int
/-- Its parts are bytes. -/
def Kok (k : K) : Prop := (0 ≤ k.1 ∧ k.1 ≤ 255) ∧ (0 ≤ k.2.1 ∧ k.2.1 ≤ 255) ∧ (0 ≤ k.2.2 ∧ k.2.2 ≤ 255)
/-- Its cells. -/
def kc (k : K) : List Value := [.int .u8 k.1, .int .u8 k.2.1, .int .u8 k.2.2]
def sizedB (s w : Int) : Bool := decide (1 ≤ s) && decide (s ≤ 4) && decide (1 ≤ w) && decide (w ≤ 4)
def widthI (a w : Int) : Int := if a = 1 ∨ a = 2 then w else if a = 3 ∨ a = 4 then 1 else 0
def housedB (a : Int) : Bool := a == 1 || a == 2
def belowI (s w : Int) : Nat → Int
  | 0 => 0
  | l + 1 => belowI s w l + s * widthI l w
def goodB (s w a b c : Int) : Bool := sizedB s w && decide (b < s) && decide (c < widthI a w)
theorem width_bounds (a w : Int) (h0 : 0 ≤ w) (h4 : w ≤ 4) : 0 ≤ widthI a w ∧ widthI a w ≤ 4 := by
  unfold widthI
  repeat' split
  all_goals omega
theorem mul_bounds (s x : Int) (h0 : 0 ≤ s) (h4 : s ≤ 4) (h1 : 0 ≤ x) (h2 : x ≤ 4) : 0 ≤ s * x ∧ s * x ≤ 16 :=
  ⟨Int.mul_nonneg h0 h1, Int.le_trans (Int.mul_le_mul h4 h2 h1 (by omega)) (by omega)⟩
theorem below_bounds (s w : Int) (h0 : 0 ≤ s) (h4 : s ≤ 4) (h1 : 0 ≤ w) (h2 : w ≤ 4) : ∀ l : Nat, 0 ≤ belowI s w l ∧ belowI s w l ≤ 16 * l
  | 0 => by simp [belowI]
  | l + 1 => by
    have h := below_bounds s w h0 h4 h1 h2 l
    have hw := width_bounds l w h1 h2
    have hm := mul_bounds s _ h0 h4 hw.1 hw.2
    simp only [belowI]
    omega
/-- Where a key stands. -/
def placeI (s w : Int) (k : K) : Int := belowI s w k.1.toNat + k.2.1 * widthI k.1 w + k.2.2
/-- Two numbers held against each other. -/
def cmp8 (x y : Int) : Int := if x < y then -1 else if y < x then 1 else 0
/-- The first of three that is not nought. -/
def orI (x y z : Int) : Int := if x ≠ 0 then x else if y ≠ 0 then y else z
def cmpI (k l : K) : Int := orI (cmp8 k.1 l.1) (cmp8 k.2.1 l.2.1) (cmp8 k.2.2 l.2.2)
def lessB (k l : K) : Bool := if k.1 ≠ l.1 then decide (k.1 < l.1) else if k.2.1 ≠ l.2.1 then decide (k.2.1 < l.2.1) else decide (k.2.2 < l.2.2)
theorem less_iff (k l : K) : lessB k l = true ↔ k.1 < l.1 ∨ k.1 = l.1 ∧ (k.2.1 < l.2.1 ∨ k.2.1 = l.2.1 ∧ k.2.2 < l.2.2) := by
  unfold lessB
  by_cases h1 : k.1 = l.1
  · by_cases h2 : k.2.1 = l.2.1
    · simp [h1, h2]
    · simp [h1, h2]
  · simp [h1]
theorem cmp8_cases (x y : Int) : x < y ∧ cmp8 x y = -1 ∨ y < x ∧ cmp8 x y = 1 ∨ x = y ∧ cmp8 x y = 0 := by
  unfold cmp8
  by_cases h1 : x < y
  · simp [h1]
  · by_cases h2 : y < x
    · simp [h1, h2]
    · simp [h1, h2]; omega
theorem cmp_values (k l : K) : cmpI k l = if lessB k l then -1 else if lessB l k then 1 else 0 := by
  have h1 := less_iff k l
  have h2 := less_iff l k
  unfold cmpI
  rcases cmp8_cases k.1 l.1 with ⟨g1, e1⟩ | ⟨g1, e1⟩ | ⟨g1, e1⟩
  · rw [if_pos (h1.2 (.inl g1)), e1]; rfl
  · rw [if_neg (fun h => by have := h1.1 h; omega), if_pos (h2.2 (.inl g1)), e1]; rfl
  · rcases cmp8_cases k.2.1 l.2.1 with ⟨g2, e2⟩ | ⟨g2, e2⟩ | ⟨g2, e2⟩
    · rw [if_pos (h1.2 (.inr ⟨g1, .inl g2⟩)), e1, e2]; rfl
    · rw [if_neg (fun h => by have := h1.1 h; omega), if_pos (h2.2 (.inr ⟨g1.symm, .inl g2⟩)), e1, e2]; rfl
    · rcases cmp8_cases k.2.2 l.2.2 with ⟨g3, e3⟩ | ⟨g3, e3⟩ | ⟨g3, e3⟩
      · rw [if_pos (h1.2 (.inr ⟨g1, .inr ⟨g2, g3⟩⟩)), e1, e2, e3]; rfl
      · rw [if_neg (fun h => by have := h1.1 h; omega), if_pos (h2.2 (.inr ⟨g1.symm, .inr ⟨g2.symm, g3⟩⟩)), e1, e2, e3]; rfl
      · rw [if_neg (fun h => by have := h1.1 h; omega), if_neg (fun h => by have := h2.1 h; omega), e1, e2, e3]; rfl
theorem less_irrefl (k : K) : lessB k k = false := by
  cases h : lessB k k with
  | false => rfl
  | true => have := (less_iff k k).1 h; omega
theorem less_trans (a b c : K) (h1 : lessB a b = true) (h2 : lessB b c = true) : lessB a c = true := by
  rw [less_iff] at *
  omega
theorem less_asymm (a b : K) (h1 : lessB a b = true) : lessB b a = false := by
  cases h : lessB b a with
  | false => rfl
  | true => rw [less_iff] at *; omega
theorem less_total (a b : K) (h1 : lessB a b = false) (h2 : lessB b a = false) : a = b := by
  have g1 : ¬ lessB a b = true := by simp [h1]
  have g2 : ¬ lessB b a = true := by simp [h2]
  rw [less_iff] at g1 g2
  exact Prod.ext (by omega) (Prod.ext (by omega) (by omega))
theorem less_ntrans (a b c : K) (h1 : lessB a b = false) (h2 : lessB b c = false) : lessB a c = false := by
  have g1 : ¬ lessB a b = true := by simp [h1]
  have g2 : ¬ lessB b c = true := by simp [h2]
  cases h : lessB a c with
  | false => rfl
  | true => rw [less_iff] at *; omega
theorem cmp_less (k l : K) : (cmpI k l < 0) ↔ lessB k l = true := by
  rw [cmp_values]
  repeat' split
  all_goals simp_all
theorem cmp_neg (k l : K) : cmpI l k = - cmpI k l := by
  rw [cmp_values, cmp_values k l]
  by_cases h1 : lessB k l = true
  · simp [h1, less_asymm k l h1]
  · by_cases h2 : lessB l k = true
    · simp [h1, h2]
    · simp [h1, h2]
theorem cmp_zero (k l : K) : cmpI k l = 0 ↔ k = l := by
  rw [cmp_values]
  constructor
  · intro h
    by_cases h1 : lessB k l = true
    · simp [h1] at h
    · by_cases h2 : lessB l k = true
      · simp [h1, h2] at h
      · exact less_total k l (by simpa using h1) (by simpa using h2)
  · rintro rfl; simp [less_irrefl]

/-- The kinds' names. -/
def wordL (a : Int) : List UInt8 := if a = 1 then [115, 116, 111, 99, 107] else if a = 2 then [104, 101, 108, 100] else if a = 3 then [111, 117, 116] else if a = 4 then [111, 119, 101, 100] else []
end Go.Proofs.YtdcanppiiikjgaaGreatDoor
namespace Go.Proofs.YtdcanppiiikjgaaGreatDoor
open Go.RowKit Go.ChangeShapes Go.WideShapes
set_option linter.unusedVariables false
set_option maxRecDepth 10000

theorem ksized_any (s w : Int) (W : World) :
    Calls Tryz.prog 74 #[.int .i64 s, .int .i64 w] W fun e w' => e = .returned (.bool (sizedB s w)) ∧ w' = W := by
  by_cases h1 : 1 ≤ s <;> by_cases h2 : s ≤ 4 <;> by_cases h3 : 1 ≤ w <;> by_cases h4 : w ≤ 4
  all_goals
    go_enter Tryz.func74, Tryz.ntmps74
    go_wp2_with fail
    go_ret
    exact ⟨by simp [sizedB, *], rfl⟩

theorem width_any (a w : Int) (W : World) :
    Calls Tryz.prog 75 #[.int .u8 a, .int .i64 w] W fun e w' => e = .returned (.int .i64 (widthI a w)) ∧ w' = W := by
  by_cases h1 : a = 1
  · subst h1
    go_enter Tryz.func75, Tryz.ntmps75
    go_wp2_with fail
    go_ret
    exact ⟨rfl, rfl⟩
  by_cases h2 : a = 2
  · subst h2
    go_enter Tryz.func75, Tryz.ntmps75
    go_wp2_with fail
    go_ret
    exact ⟨rfl, rfl⟩
  by_cases h3 : a = 3
  · subst h3
    go_enter Tryz.func75, Tryz.ntmps75
    go_wp2_with fail
    go_ret
    exact ⟨rfl, rfl⟩
  by_cases h4 : a = 4
  · subst h4
    go_enter Tryz.func75, Tryz.ntmps75
    go_wp2_with fail
    go_ret
    exact ⟨rfl, rfl⟩
  have hF : widthI a w = 0 := by simp [widthI, h1, h2, h3, h4]
  rw [hF]
  go_enter Tryz.func75, Tryz.ntmps75
  go_wp2_with fail
  go_ret
  exact ⟨rfl, rfl⟩

/-- w' is w behind some draws, with some blocks laid behind it. -/
def Gr (w w' : World) : Prop := ∃ q os, w' = Sort.grow (w.drewN q) os
theorem Gr.refl (w : World) : Gr w w := ⟨0, #[], by rw [Sort.grow_empty]; rfl⟩
theorem Gr.trans {a b c : World} (h : Gr a b) (g : Gr b c) : Gr a c := by
  obtain ⟨q, os, rfl⟩ := h
  obtain ⟨q', os', rfl⟩ := g
  exact ⟨q + q', os ++ os', by show Sort.grow (Sort.grow ((a.drewN q).drewN q') os) os' = _; rw [Sort.grow_grow, World.drewN_drewN]⟩
theorem Gr.alloc {a b : World} (h : Gr a b) (o : Obj) : Gr a (b.alloc o) := h.trans ⟨0, #[o], by rw [Sort.alloc_eq_grow]; rfl⟩
theorem Gr.drew {a b : World} (h : Gr a b) : Gr a b.drew := h.trans ⟨1, #[], by rw [Sort.grow_empty]; rfl⟩
theorem Gr.drewN {a b : World} (h : Gr a b) (n : Nat) : Gr a (b.drewN n) := h.trans ⟨n, #[], by rw [Sort.grow_empty]⟩
theorem Gr.below {a b : World} (h : Gr a b) : Below a.heap.size a b := by
  obtain ⟨q, os, rfl⟩ := h
  exact ⟨rfl, rfl, rfl, by simp [World.drewN], fun k hk => Sort.heap_grow_old (a.drewN q) os hk⟩
/-- A key's block. -/
def box (k : K) : Obj := .cells #[.int .u8 k.1, .int .u8 k.2.1, .int .u8 k.2.2] 24
end Go.Proofs.YtdcanppiiikjgaaGreatDoor
namespace Go.Proofs.YtdcanppiiikjgaaGreatDoor
open Go.RowKit Go.ChangeShapes Go.WideShapes
set_option linter.unusedVariables false
set_option maxRecDepth 10000

theorem good_any (s w a b c : Int) (hb : 0 ≤ b ∧ b ≤ 255) (hc : 0 ≤ c ∧ c ≤ 255) (W : World) :
    Calls Tryz.prog 43 #[.int .i64 s, .int .i64 w, .agg #[.int .u8 a, .int .u8 b, .int .u8 c]] W fun e w' => e = .returned (.bool (goodB s w a b c)) ∧ Gr W w' := by
  obtain ⟨hb0, hb1⟩ := hb
  obtain ⟨hc0, hc1⟩ := hc
  have hz := fun W => ksized_any s w W
  have hx := fun W => width_any a w W
  cases h1 : sizedB s w with
  | false =>
    have hF : goodB s w a b c = false := by simp [goodB, h1]
    rw [hF]
    rw [h1] at hz
    clear hF h1
    go_enter Tryz.func43, Tryz.ntmps43
    go_wp2_with fail
    have HG := Lib.hid ((Gr.refl W).alloc (.cells #[.int .u8 a, .int .u8 b, .int .u8 c] 24))
    have e0 : (W.alloc (.cells #[.int .u8 a, .int .u8 b, .int .u8 c] 24)).cell? ⟨W.heap.size, 0, none⟩ = some (.int .u8 a) := by simp
    have e1 : (W.alloc (.cells #[.int .u8 a, .int .u8 b, .int .u8 c] 24)).cell? ⟨W.heap.size, 1, none⟩ = some (.int .u8 b) := by simp
    have e2 : (W.alloc (.cells #[.int .u8 a, .int .u8 b, .int .u8 c] 24)).cell? ⟨W.heap.size, 2, none⟩ = some (.int .u8 c) := by simp
    generalize W.alloc (.cells #[.int .u8 a, .int .u8 b, .int .u8 c] 24) = W1 at *
    generalize W.heap.size = X at *
    go_quiet (first
      | (go_at_call 74; exact Calls.quiet_of_same (hz _)))
    go_wp2_with fail
    go_ret
    exact ⟨rfl, HG.out.drewN _⟩
  | true =>
    rw [h1] at hz
    by_cases h2 : b < s
    · have hF : goodB s w a b c = decide (c < widthI a w) := by simp [goodB, h1, h2]
      rw [hF]
      clear hF h1
      generalize widthI a w = x at *
      go_enter Tryz.func43, Tryz.ntmps43
      go_wp2_with fail
      have HG := Lib.hid ((Gr.refl W).alloc (.cells #[.int .u8 a, .int .u8 b, .int .u8 c] 24))
      have e0 : (W.alloc (.cells #[.int .u8 a, .int .u8 b, .int .u8 c] 24)).cell? ⟨W.heap.size, 0, none⟩ = some (.int .u8 a) := by simp
      have e1 : (W.alloc (.cells #[.int .u8 a, .int .u8 b, .int .u8 c] 24)).cell? ⟨W.heap.size, 1, none⟩ = some (.int .u8 b) := by simp
      have e2 : (W.alloc (.cells #[.int .u8 a, .int .u8 b, .int .u8 c] 24)).cell? ⟨W.heap.size, 2, none⟩ = some (.int .u8 c) := by simp
      generalize W.alloc (.cells #[.int .u8 a, .int .u8 b, .int .u8 c] 24) = W1 at *
      generalize W.heap.size = X at *
      go_quiet (first
        | (go_at_call 74; exact Calls.quiet_of_same (hz _))
        | (go_at_call 75; exact Calls.quiet_of_same (hx _)))
      go_wp2_with fail
      go_ret
      exact ⟨rfl, HG.out.drewN _⟩
    · have hF : goodB s w a b c = false := by simp [goodB, h2]
      rw [hF]
      clear hF h1
      have h2' : decide (b < s) = false := by simpa using h2
      go_enter Tryz.func43, Tryz.ntmps43
      go_wp2_with fail
      have HG := Lib.hid ((Gr.refl W).alloc (.cells #[.int .u8 a, .int .u8 b, .int .u8 c] 24))
      have e0 : (W.alloc (.cells #[.int .u8 a, .int .u8 b, .int .u8 c] 24)).cell? ⟨W.heap.size, 0, none⟩ = some (.int .u8 a) := by simp
      have e1 : (W.alloc (.cells #[.int .u8 a, .int .u8 b, .int .u8 c] 24)).cell? ⟨W.heap.size, 1, none⟩ = some (.int .u8 b) := by simp
      have e2 : (W.alloc (.cells #[.int .u8 a, .int .u8 b, .int .u8 c] 24)).cell? ⟨W.heap.size, 2, none⟩ = some (.int .u8 c) := by simp
      generalize W.alloc (.cells #[.int .u8 a, .int .u8 b, .int .u8 c] 24) = W1 at *
      generalize W.heap.size = X at *
      go_quiet (first
        | (go_at_call 74; exact Calls.quiet_of_same (hz _)))
      go_wp2_with fail
      go_ret
      exact ⟨rfl, HG.out.drewN _⟩

end Go.Proofs.YtdcanppiiikjgaaGreatDoor
namespace Go.Proofs.YtdcanppiiikjgaaGreatDoor
open Go.RowKit Go.ChangeShapes Go.WideShapes
set_option linter.unusedVariables false

end Go.Proofs.YtdcanppiiikjgaaGreatDoor
namespace Go.Proofs.YtdcanppiiikjgaaGreatDoor
open Go.RowKit Go.ChangeShapes Go.WideShapes
set_option linter.unusedVariables false
set_option maxRecDepth 100000 in
theorem open_key {H : Type} {enc : TypeId × Value → H} {w : World} {base b0 : Nat} {spare : Nat → Bool} {held : Bool} {r : Reach} {v : Value} {d : DataW H} {p : List MemPlace}
    (hv : Value.okWide Tryz.prog w r b0 24 v) (h : DataW.Trod enc Tryz.prog w base spare held 24 v d p) : ∃ k : K, v = .agg #[.int .u8 k.1, .int .u8 k.2.1, .int .u8 k.2.2] ∧ Kok k := by
  obtain ⟨v0, v1, v2, y0, y1, y2, n, rfl, _, _, t0, t1, t2⟩ := Go.Joins.open_agg3 Tryz.underlying24 (by kernel_rfl) (by kernel_rfl) hv h
  obtain ⟨z0, hv0, _, wf0⟩ := DataW.trod_int Tryz.underlying5 t0
  obtain ⟨z1, hv1, _, wf1⟩ := DataW.trod_int Tryz.underlying5 t1
  obtain ⟨z2, hv2, _, wf2⟩ := DataW.trod_int Tryz.underlying5 t2
  simp at hv0 hv1 hv2
  subst hv0 hv1 hv2
  exact ⟨(z0, z1, z2), rfl, bounds_u8 wf0, bounds_u8 wf1, bounds_u8 wf2⟩
end Go.Proofs.YtdcanppiiikjgaaGreatDoor
namespace Go.Proofs.YtdcanppiiikjgaaGreatDoor
open Go.RowKit Go.ChangeShapes Go.WideShapes
set_option linter.unusedVariables false
set_option maxRecDepth 10000

def kv (k : K) : Value := .agg #[.int .u8 k.1, .int .u8 k.2.1, .int .u8 k.2.2]
theorem key_put {w : World} {B : Nat} {x y z : Value} {t : TypeId} (u v q : Value) (h : w.heap[B]? = some (.cells #[x, y, z] t (0, 0))) : (((w.setCell ⟨B, 0, none⟩ u).setCell ⟨B, 1, none⟩ v).setCell ⟨B, 2, none⟩ q).heap[B]? = some (.cells #[u, v, q] t (0, 0)) :=
  block_put 2 q (block_put 1 v (block_put 0 u h))
theorem load_key (R : Nat) (a b c : Int) (W : World) (h0 : W.cell? ⟨R, 0, none⟩ = some (.int .u8 a)) (h1 : W.cell? ⟨R, 1, none⟩ = some (.int .u8 b)) (h2 : W.cell? ⟨R, 2, none⟩ = some (.int .u8 c)) :
    (loadVar 24 ⟨R, 0, none⟩).run Tryz.prog W = .ok (.agg #[.int .u8 a, .int .u8 b, .int .u8 c]) W := by
  unfold loadVar
  go_simp
theorem results_key {fn : Func} (h : fn.results = #[.cell 2 24, .tmp 3]) (tmps : Array Value) (W : World) (R : Nat) (a b c : Int) (v : Value) (hp : tmps.getD 2 undef = .pointer (some ⟨R, 0, none⟩)) (hv : tmps.getD 3 undef = v)
    (h0 : W.cell? ⟨R, 0, none⟩ = some (.int .u8 a)) (h1 : W.cell? ⟨R, 1, none⟩ = some (.int .u8 b)) (h2 : W.cell? ⟨R, 2, none⟩ = some (.int .u8 c)) :
    (results fn tmps).run Tryz.prog W = .ok (.tuple #[.agg #[.int .u8 a, .int .u8 b, .int .u8 c], v]) W := by
  rw [results_cell_tmp h, hp, hv]
  have hl := load_key R a b c W h0 h1 h2
  simp [asAddr, Result.andThen, hl]

/-- A key that a text may tell. -/
def Canon (k : K) : Prop := (1 ≤ k.1 ∧ k.1 ≤ 4) ∧ (0 ≤ k.2.1 ∧ k.2.1 ≤ 255) ∧ (0 ≤ k.2.2 ∧ k.2.2 ≤ 255) ∧ (3 ≤ k.1 → k.2.2 = 0)
end Go.Proofs.YtdcanppiiikjgaaGreatDoor
namespace Go.Proofs.YtdcanppiiikjgaaGreatDoor
open Go.RowKit Go.ChangeShapes Go.WideShapes
set_option linter.unusedVariables false
set_option maxRecDepth 10000

theorem key_eql (a b c x y z : Int) (w : World) : (binOp .eql 24 (.agg #[.int .u8 a, .int .u8 b, .int .u8 c]) (.agg #[.int .u8 x, .int .u8 y, .int .u8 z])).run Tryz.prog w = .ok (.bool (decide (((a, b, c) : K) = (x, y, z)))) w := by
  by_cases h1 : a = x
  · by_cases h2 : b = y
    · by_cases h3 : c = z
      · subst h1 h2 h3
        go_simp
      · subst h1 h2
        go_simp
    · subst h1
      go_simp
  · go_simp
end Go.Proofs.YtdcanppiiikjgaaGreatDoor
namespace Go.Proofs.YtdcanppiiikjgaaGreatDoor
open Go.RowKit Go.ChangeShapes Go.WideShapes Go.Deep
set_option linter.unusedVariables false
set_option maxRecDepth 10000

/-- Keys as values, cell by cell. -/
def kL (L : List K) : List Value := L.flatMap kc
theorem kL_len : ∀ L : List K, (kL L).length = L.length * 3
  | [] => rfl
  | k :: L => by
    have := kL_len L
    unfold kL at *
    rw [List.flatMap_cons, List.length_append, this, List.length_cons]
    show 3 + _ = _
    omega
theorem kL_append (L M : List K) : kL (L ++ M) = kL L ++ kL M := List.flatMap_append ..
theorem kL_at : ∀ (L : List K) (j i : Nat), j < L.length → i < 3 → (kL L)[j * 3 + i]? = (kc (L.getD j (0, 0, 0)))[i]?
  | k :: L, 0, i, _, hi => by
    unfold kL
    rw [List.flatMap_cons, List.getElem?_append_left (by show 0 * 3 + i < 3; omega)]
    simp
  | k :: L, j + 1, i, hj, hi => by
    have ih := kL_at L j i (by simpa using hj) hi
    unfold kL at *
    rw [List.flatMap_cons, List.getElem?_append_right (by show 3 ≤ (j + 1) * 3 + i; omega)]
    rw [show (j + 1) * 3 + i - (kc k).length = j * 3 + i by show (j + 1) * 3 + i - 3 = _; omega]
    simpa using ih
theorem kL_one (L : List K) : ∀ u ∈ kL L, u.oneCell' = true := by
  intro u hu
  obtain ⟨k, _, hk⟩ := List.mem_flatMap.1 hu
  simp only [kc, List.mem_cons, List.not_mem_nil, or_false] at hk
  rcases hk with rfl | rfl | rfl <;> rfl
/-- The address, the length and the capacity of a slice that holds the keys L. -/
structure KL (w : World) (p : Option Addr) (n c : Nat) (L : List K) : Prop where
  len : L.length = n
  cap : n ≤ c
  max : c ≤ maxLen
  nil : p = none → c = 0
  ok : ∀ k ∈ L, Kok k
  cell : 0 < n → ∃ b off, p = some ⟨b, off, none⟩ ∧ ∀ j, j < n →
    w.cell? ⟨b, off + j * 3, none⟩ = some (.int .u8 (L.getD j (0, 0, 0)).1) ∧ w.cell? ⟨b, off + j * 3 + 1, none⟩ = some (.int .u8 (L.getD j (0, 0, 0)).2.1) ∧ w.cell? ⟨b, off + j * 3 + 2, none⟩ = some (.int .u8 (L.getD j (0, 0, 0)).2.2)
theorem KL.later {w w' : World} {p : Option Addr} {n c : Nat} {L : List K} (h : KL w p n c L) (hb : Below w.heap.size w w') : KL w' p n c L := by
  refine ⟨h.len, h.cap, h.max, h.nil, h.ok, fun h0 => ?_⟩
  obtain ⟨b, off, rfl, hc⟩ := h.cell h0
  refine ⟨b, off, rfl, fun j hj => ?_⟩
  obtain ⟨c0, c1, c2⟩ := hc j hj
  have hlt : b < w.heap.size := World.block_lt_of_cell? _ _ c0
  exact ⟨(hb.cell (p := ⟨b, off + j * 3, none⟩) hlt).trans c0, (hb.cell (p := ⟨b, off + j * 3 + 1, none⟩) hlt).trans c1, (hb.cell (p := ⟨b, off + j * 3 + 2, none⟩) hlt).trans c2⟩
theorem KL.empty (w : World) : KL w none 0 0 [] := ⟨rfl, Nat.le_refl _, by unfold maxLen; omega, fun _ => rfl, (fun x h => by cases h), fun h => by omega⟩
theorem KL.take {w : World} {p : Option Addr} {n c : Nat} {L : List K} (h : KL w p n c L) (k : Nat) (hk : k ≤ n) : KL w p k c (L.take k) := by
  refine ⟨by rw [List.length_take, h.len]; omega, Nat.le_trans hk h.cap, h.max, h.nil, fun x hx => h.ok x (List.mem_of_mem_take hx), fun h0 => ?_⟩
  obtain ⟨b, off, hp, hc⟩ := h.cell (by omega)
  refine ⟨b, off, hp, fun j hj => ?_⟩
  have e : (L.take k).getD j (0, 0, 0) = L.getD j (0, 0, 0) := by rw [List.getD, List.getD, List.getElem?_take, if_pos hj]
  rw [e]
  exact hc j (by omega)
theorem Kok.getD {L : List K} (h : ∀ k ∈ L, Kok k) (j : Nat) : Kok (L.getD j (0, 0, 0)) := by
  rw [List.getD]
  by_cases hj : j < L.length
  · rw [List.getElem?_eq_getElem hj]; exact h _ (List.getElem_mem hj)
  · rw [List.getElem?_eq_none (by omega)]; exact ⟨by simp, by simp, by simp⟩
/-- A row of keys that the call owns, as a slice. -/
theorem KL.of_own {w : World} {B : Nat} {v : Value} {n : Nat} {L : List K} (h : w.ownsRow B 24 3 v n (kL L)) (hok : ∀ k ∈ L, Kok k) : ∃ p c, v = .slice p n c ∧ KL w p n c L := by
  have hl : L.length = n := by have h1 := h.1; rw [kL_len] at h1; omega
  rcases h.2 with ⟨rfl, rfl⟩ | ⟨g, cap, cur, rfl, h1, h2, h3, h4, h5, h6⟩
  · obtain rfl : L = [] := List.eq_nil_of_length_eq_zero hl
    exact ⟨_, _, rfl, KL.empty w⟩
  · refine ⟨_, _, rfl, hl, h3, h4, (fun hn => by cases hn), hok, fun h0 => ⟨g, 0, rfl, fun j hj => ?_⟩⟩
    have hc : ∀ i, i < 3 → w.cell? ⟨g, 0 + j * 3 + i, none⟩ = (kc (L.getD j (0, 0, 0)))[i]? := fun i hi => by
      rw [Nat.zero_add, h.cellAt (j * 3 + i) (by omega), kL_at L j i (by omega) hi]
    exact ⟨hc 0 (by omega), hc 1 (by omega), hc 2 (by omega)⟩
theorem info_key : (Tryz.prog.info? 24).map (fun i => (i.zero, i.size, i.bytes)) = some (some (.agg #[.int .u8 0, .int .u8 0, .int .u8 0]), 3, 3) := by kernel_rfl
section
variable {H : Type} {enc : TypeId × Value → H} {P : Program} {w : World} {base : Nat} {spare : Nat → Bool} {held : Bool}
theorem open_slice_cells {t e : TypeId} {fs : Array Field} {fuel : Nat} {cs : List Value} {x : DataW H × List MemPlace} (ht : P.underlying t = some (.slice e)) (he : P.underlying e = some (.struct fs))
    (hone : oneCellFields P fs = true) (hC : P.cellsOf e = fs.size) (h : DataW.trod enc P w base spare held fuel t cs = some x) :
    (cs = [.slice none 0 0] ∧ x = (.nil, [])) ∨
    ∃ (a : Addr) (len cap m : Nat), cs = [.slice (some a) len cap] ∧ len ≤ cap ∧ cap ≤ maxLen ∧ m = (if spare a.block then cap else len) ∧
      ∀ i, i < m → ∃ n : Nat, ∀ (j : Nat) (f : Field), fs[j]? = some f → ∃ (v : Value) (y : DataW H × List MemPlace), w.cell? (a.add (i * fs.size + j)) = some v ∧ DataW.trod enc P w base spare held n f.type [v] = some y := by
  rcases open_slice ht h with h0 | ⟨a, len, cap, m, n, D, Pl, hcs, hb, hl, hm, hmm, hx, hi⟩
  · exact .inl h0
  · refine .inr ⟨a, len, cap, m, hcs, hl, hm, hmm, fun i him => ?_⟩
    obtain ⟨cs', hc, ht'⟩ := hi i him
    rw [hC] at hc
    obtain ⟨ys, n', hn', hy, hlen, hyl, hf⟩ := DataW.trod_struct he ht'
    obtain ⟨_, hcl, hat⟩ := World.cells?_some hc
    refine ⟨n', fun j f hj => ?_⟩
    obtain ⟨ho, hk⟩ := hone_of hone j f hj
    have hjl : j < fs.size := (Array.getElem?_eq_some_iff.1 hj).1
    have hcell := hat j hjl
    have hv : cs'[j]? = some (cs'[j]'(by omega)) := List.getElem?_eq_getElem (by omega)
    have h1 := hf j f hj
    rw [ho, hk] at h1
    have hone' : (cs'.drop j).take 1 = [cs'[j]'(by omega)] := by
      rw [List.drop_eq_getElem_cons (by omega)]
      rfl
    rw [hone'] at h1
    have hys : ys[j]? = some (ys[j]'(by omega)) := List.getElem?_eq_getElem (by omega)
    refine ⟨_, _, ?_, h1.trans hys⟩
    rw [← Go.Deep.add_add, hcell, hv]
end
end Go.Proofs.YtdcanppiiikjgaaGreatDoor
namespace Go.Proofs.YtdcanppiiikjgaaGreatDoor
open Go.RowKit Go.ChangeShapes Go.WideShapes
set_option linter.unusedVariables false
set_option maxRecDepth 10000

def colL (a b : Int) (m : Nat) : List K := (List.range m).map fun (c : Nat) => (a, b, (c : Int))
def skuL (w a : Int) (m : Nat) : List K := (List.range m).flatMap fun (b : Nat) => colL a b (widthI a w).toNat
def allQ (s w : Int) (l : Nat) : List K := (List.range l).flatMap fun (a : Nat) => skuL w a s.toNat
theorem col_succ (a b : Int) (m : Nat) : colL a b (m + 1) = colL a b m ++ [(a, b, (m : Int))] := by simp [colL, List.range_succ]
theorem sku_succ (w a : Int) (m : Nat) : skuL w a (m + 1) = skuL w a m ++ colL a m (widthI a w).toNat := by simp [skuL, List.range_succ]
theorem all_succ (s w : Int) (l : Nat) : allQ s w (l + 1) = allQ s w l ++ skuL w l s.toNat := by simp [allQ, List.range_succ]
theorem sku_none (w : Int) (m : Nat) : skuL w 0 m = [] := by
  have h : (widthI 0 w).toNat = 0 := by simp [widthI]
  simp [skuL, h, colL]
theorem all_one (s w : Int) : allQ s w 1 = [] := by
  rw [all_succ, show allQ s w 0 = [] from rfl]
  exact sku_none w _
theorem all_ok (s w : Int) (h : sizedB s w = true) : ∀ k ∈ allQ s w 5, Kok k := by
  simp only [sizedB, Bool.and_eq_true, decide_eq_true_eq] at h
  intro k hk
  simp only [allQ, skuL, colL, List.mem_flatMap, List.mem_map, List.mem_range] at hk
  obtain ⟨a, ha, b, hb, c, hc, rfl⟩ := hk
  have := width_bounds a w (by omega) (by omega)
  unfold Kok
  dsimp only
  omega
/-- The row that the call is filling holds L, at most N keys. -/
structure Fill (W wr : World) (v : Value) (L : List K) (N : Nat) : Prop where
  own : wr.ownsRow W.heap.size 24 3 v L.length (kL L)
  below : Below W.heap.size W wr
  most : L.length ≤ N
theorem Fill.step {W wr w' : World} {v v' : Value} {L : List K} {N : Nat} {k : K} (h : Fill W wr v L N) (o : Obj) (h1 : w'.ownsRow W.heap.size 24 3 v' (L.length + 1) (kL (L ++ [k]))) (h2 : (wr.alloc o).grownBy w' v.ownBlock) : Fill W w' v' (L ++ [k]) (N + 1) := by
  refine ⟨by simpa using h1, (h.below.alloc h.below.size o).grown h2 ?_ fun j hj => (h.own.lt j hj).1, ?_⟩
  · have := h.below.size
    simp
    omega
  · have := h.most
    simp
    omega
theorem Fill.later {W wr w' : World} {v : Value} {L : List K} {N : Nat} (h : Fill W wr v L N) (hb : Below wr.heap.size wr w') : Fill W w' v L N := by
  refine ⟨⟨h.own.1, ?_⟩, h.below.trans (hb.mono h.below.size), h.most⟩
  rcases h.own.2 with hn | ⟨g, cap, cur, rfl, h1, h2, h3⟩
  · exact .inl hn
  · exact .inr ⟨g, cap, cur, rfl, h1, block_later h2 hb, h3⟩
theorem Fill.mono {W wr : World} {v : Value} {L : List K} {N M : Nat} (h : Fill W wr v L N) (hn : N ≤ M) : Fill W wr v L M := ⟨h.own, h.below, Nat.le_trans h.most hn⟩

/-- A call that hands back the keys L. -/
def Lists (W : World) (L : List K) (e : Ending) (w' : World) : Prop := ∃ p c, e = .returned (.slice p L.length c) ∧ KL w' p L.length c L ∧ Below W.heap.size W w'
theorem Fill.lists {W wr : World} {v : Value} {L : List K} {N : Nat} (h : Fill W wr v L N) (hok : ∀ k ∈ L, Kok k) : Lists W L (.returned v) wr := by
  obtain ⟨p, c, rfl, hk⟩ := KL.of_own h.own hok
  exact ⟨p, c, rfl, hk, h.below⟩
end Go.Proofs.YtdcanppiiikjgaaGreatDoor
namespace Go.Proofs.YtdcanppiiikjgaaGreatDoor
open Go.RowKit Go.ChangeShapes Go.WideShapes
set_option linter.unusedVariables false
set_option maxRecDepth 10000

theorem calls_after_gr {P : Program} {f : FuncId} {args : Array Value} {W : World} {v : Value} (p : After W) (h : Calls P f args p.w fun e w' => e = .returned v ∧ Gr p.w w') :
    Calls P f args p.w fun e w'' => e = .returned v ∧ ∃ q : After W, w'' = q.w := calls_after p (h.mono fun _ _ ⟨he, hb⟩ => ⟨he, hb.below⟩)
theorem key_neq (a b c x y z : Int) (w : World) : (binOp .neq 24 (.agg #[.int .u8 a, .int .u8 b, .int .u8 c]) (.agg #[.int .u8 x, .int .u8 y, .int .u8 z])).run Tryz.prog w = .ok (.bool (!decide (((a, b, c) : K) = (x, y, z)))) w := by
  by_cases h1 : a = x
  · by_cases h2 : b = y
    · by_cases h3 : c = z
      · subst h1 h2 h3
        go_simp
      · subst h1 h2
        go_simp
    · subst h1
      go_simp
  · go_simp

def canonB (k : K) : Bool := decide (1 ≤ k.1) && decide (k.1 ≤ 4) && (decide (0 ≤ k.2.1) && decide (k.2.1 ≤ 255)) && (decide (0 ≤ k.2.2) && decide (k.2.2 ≤ 255)) && (decide (k.1 < 3) || k.2.2 == 0)
def chkB (s w : Int) : Bool := ((allQ s w 5).length == (belowI s w 5).toNat) && (List.range (allQ s w 5).length).all fun j =>
  let k := (allQ s w 5).getD j (0, 0, 0); goodB s w k.1 k.2.1 k.2.2 && (placeI s w k == (j : Int)) && canonB k
theorem chk_all : ((List.range 4).all fun (s : Nat) => (List.range 4).all fun (w : Nat) => chkB ((s : Int) + 1) ((w : Int) + 1)) = true := by kernel_rfl
theorem chk (s w : Nat) (hs : 1 ≤ s ∧ s ≤ 4) (hw : 1 ≤ w ∧ w ≤ 4) : ((allQ s w 5).length : Int) = belowI s w 5 ∧ ∀ j, j < (allQ s w 5).length → goodB s w ((allQ s w 5).getD j (0, 0, 0)).1 ((allQ s w 5).getD j (0, 0, 0)).2.1 ((allQ s w 5).getD j (0, 0, 0)).2.2 = true ∧ placeI s w ((allQ s w 5).getD j (0, 0, 0)) = j ∧ Canon ((allQ s w 5).getD j (0, 0, 0)) := by
  have h := List.all_eq_true.1 (List.all_eq_true.1 chk_all (s - 1) (List.mem_range.2 (by omega))) (w - 1) (List.mem_range.2 (by omega))
  rw [show ((s - 1 : Nat) : Int) + 1 = s by omega, show ((w - 1 : Nat) : Int) + 1 = w by omega] at h
  simp only [chkB, Bool.and_eq_true, beq_iff_eq, List.all_eq_true, List.mem_range] at h
  have hb := below_bounds s w (by omega) (by omega) (by omega) (by omega) 5
  refine ⟨by omega, fun j hj => ?_⟩
  obtain ⟨⟨h1, h2⟩, h3⟩ := h.2 j hj
  refine ⟨h1, h2, ?_⟩
  simp only [canonB, Bool.and_eq_true, Bool.or_eq_true, decide_eq_true_eq, beq_iff_eq] at h3
  obtain ⟨⟨⟨⟨g1, g2⟩, g3⟩, g4⟩, g5⟩ := h3
  exact ⟨⟨g1, g2⟩, g3, g4, fun h => by rcases g5 with g5 | g5 <;> omega⟩
theorem Canon.kok {k : K} (h : Canon k) : Kok k := ⟨by have := h.1; omega, h.2.1, h.2.2.1⟩
end Go.Proofs.YtdcanppiiikjgaaGreatDoor
namespace Go.Proofs.YtdcanppiiikjgaaGreatDoor
open Go.RowKit Go.ChangeShapes Go.WideShapes
set_option linter.unusedVariables false
set_option maxRecDepth 10000

theorem refgood_off (s w a b c : Int) (hb : 0 ≤ b ∧ b ≤ 255) (h : s < 1 ∨ (¬ s < 1 ∧ 4 < s) ∨ (¬ s < 1 ∧ ¬ 4 < s ∧ w < 1) ∨ (¬ s < 1 ∧ ¬ 4 < s ∧ ¬ w < 1 ∧ 4 < w) ∨ (¬ s < 1 ∧ ¬ 4 < s ∧ ¬ w < 1 ∧ ¬ 4 < w ∧ s ≤ b)) (W : World) :
    Calls Tryz.prog 27 #[.int .i64 s, .int .i64 w, .agg #[.int .u8 a, .int .u8 b, .int .u8 c]] W fun e w' => e = .returned (.bool false) ∧ Gr W w' := by
  obtain ⟨hb0, hb1⟩ := hb
  rcases h with h1 | ⟨h1, h2⟩ | ⟨h1, h2, h3⟩ | ⟨h1, h2, h3, h4⟩ | ⟨h1, h2, h3, h4, h5⟩
  all_goals
    go_enter Tryz.func27, Tryz.ntmps27
    go_wp2_with fail
    go_ret
    exact ⟨rfl, (Gr.refl W).alloc _⟩
theorem refgood_on (s w a b c : Int) (hb : 0 ≤ b ∧ b ≤ 255) (hc : 0 ≤ c ∧ c ≤ 255) (h1 : ¬ s < 1) (h2 : ¬ 4 < s) (h3 : ¬ w < 1) (h4 : ¬ 4 < w) (h5 : ¬ s ≤ b) (W : World) :
    Calls Tryz.prog 27 #[.int .i64 s, .int .i64 w, .agg #[.int .u8 a, .int .u8 b, .int .u8 c]] W fun e w' => e = .returned (.bool (decide (c < widthI a w))) ∧ Gr W w' := by
  obtain ⟨hb0, hb1⟩ := hb
  obtain ⟨hc0, hc1⟩ := hc
  by_cases a1 : a = 1
  · subst a1
    have hw : widthI 1 w = w := rfl
    rw [hw]
    clear hw
    go_enter Tryz.func27, Tryz.ntmps27
    go_wp2_with fail
    go_ret
    exact ⟨rfl, (Gr.refl W).alloc _⟩
  by_cases a2 : a = 2
  · subst a2
    have hw : widthI 2 w = w := rfl
    rw [hw]
    clear hw
    go_enter Tryz.func27, Tryz.ntmps27
    go_wp2_with fail
    go_ret
    exact ⟨rfl, (Gr.refl W).alloc _⟩
  have n1 : (a == 1) = false := by simpa using a1
  have n2 : (a == 2) = false := by simpa using a2
  by_cases a34 : a = 3 ∨ a = 4
  · have hw : decide (c < widthI a w) = (c == 0) := by
      rcases a34 with rfl | rfl
      · rw [show widthI 3 w = 1 from rfl, Bool.eq_iff_iff]; simp; omega
      · rw [show widthI 4 w = 1 from rfl, Bool.eq_iff_iff]; simp; omega
    rw [hw]
    clear hw
    rcases a34 with rfl | rfl
    · go_enter Tryz.func27, Tryz.ntmps27
      go_wp2_with fail
      go_ret
      exact ⟨rfl, (Gr.refl W).alloc _⟩
    · go_enter Tryz.func27, Tryz.ntmps27
      go_wp2_with fail
      go_ret
      exact ⟨rfl, (Gr.refl W).alloc _⟩
  · have hw : decide (c < widthI a w) = false := by
      have : widthI a w = 0 := by unfold widthI; rw [if_neg (by omega), if_neg a34]
      rw [this]; simp; omega
    rw [hw]
    clear hw
    have n3 : (a == 3) = false := by simp; omega
    have n4 : (a == 4) = false := by simp; omega
    clear a34
    go_enter Tryz.func27, Tryz.ntmps27
    go_wp2_with fail
    go_ret
    exact ⟨rfl, (Gr.refl W).alloc _⟩
theorem refgood_any (s w a b c : Int) (hb : 0 ≤ b ∧ b ≤ 255) (hc : 0 ≤ c ∧ c ≤ 255) (W : World) :
    Calls Tryz.prog 27 #[.int .i64 s, .int .i64 w, .agg #[.int .u8 a, .int .u8 b, .int .u8 c]] W fun e w' => e = .returned (.bool (goodB s w a b c)) ∧ Gr W w' := by
  by_cases h : sizedB s w = true ∧ b < s
  · have hF : goodB s w a b c = decide (c < widthI a w) := by simp [goodB, h]
    rw [hF]
    obtain ⟨h, h5⟩ := h
    simp only [sizedB, Bool.and_eq_true, decide_eq_true_eq] at h
    exact refgood_on s w a b c hb hc (by omega) (by omega) (by omega) (by omega) (by omega) W
  · have hF : goodB s w a b c = false := by
      cases hg : goodB s w a b c with
      | false => rfl
      | true =>
        simp only [goodB, Bool.and_eq_true, decide_eq_true_eq] at hg
        exact absurd ⟨hg.1.1, hg.1.2⟩ h
    rw [hF]
    simp only [sizedB, Bool.and_eq_true, decide_eq_true_eq] at h
    exact refgood_off s w a b c hb (by omega) W

end Go.Proofs.YtdcanppiiikjgaaGreatDoor
namespace Go.Proofs.YtdcanppiiikjgaaGreatDoor
open Go.RowKit Go.ChangeShapes Go.WideShapes
set_option linter.unusedVariables false
set_option maxRecDepth 10000

def stW (k : K) (st : Bool × List K) (x : K) : Bool × List K :=
  let s1 := if (!st.1 && !lessB x k) = true then (true, st.2 ++ [k]) else st
  (s1.1, if x = k then s1.2 else s1.2 ++ [x])
def withL (L : List K) (k : K) : List K := if (L.foldl (stW k) (false, [])).1 = true then (L.foldl (stW k) (false, [])).2 else (L.foldl (stW k) (false, [])).2 ++ [k]
def insK : List K → K → List K
  | [], k => [k]
  | x :: L, k => if lessB x k = true then x :: insK L k else k :: (x :: L).filter fun y => decide (y ≠ k)
theorem fold_done (k : K) : ∀ (L out : List K), L.foldl (stW k) (true, out) = (true, out ++ L.filter fun y => decide (y ≠ k))
  | [], out => by simp
  | x :: L, out => by
    rw [List.foldl_cons]
    have h : stW k (true, out) x = (true, if x = k then out else out ++ [x]) := by simp [stW]
    rw [h, fold_done k L]
    by_cases hx : x = k
    · simp [hx]
    · simp [hx]
theorem fold_ins (k : K) : ∀ (L out : List K), (if (L.foldl (stW k) (false, out)).1 = true then (L.foldl (stW k) (false, out)).2 else (L.foldl (stW k) (false, out)).2 ++ [k]) = out ++ insK L k
  | [], out => by simp [insK]
  | x :: L, out => by
    rw [List.foldl_cons]
    cases hx : lessB x k with
    | true =>
      have hne : ¬ x = k := fun e => by rw [e, less_irrefl] at hx; cases hx
      have h : stW k (false, out) x = (false, out ++ [x]) := by simp [stW, hx, hne]
      rw [h, fold_ins k L (out ++ [x]), insK, if_pos hx, List.append_assoc]
      rfl
    | false =>
      have h : stW k (false, out) x = (true, if x = k then out ++ [k] else out ++ [k] ++ [x]) := by simp [stW, hx]
      have hn : ¬ lessB x k = true := by simp [hx]
      have hi : insK (x :: L) k = k :: (x :: L).filter fun y => decide (y ≠ k) := by rw [insK, if_neg hn]
      rw [h, fold_done, hi]
      by_cases hxk : x = k
      · simp [hxk]
      · simp [hxk]
theorem with_ins (L : List K) (k : K) : withL L k = insK L k := by
  have := fold_ins k L []
  simpa [withL] using this
theorem ins_mem (k x : K) : ∀ L : List K, x ∈ insK L k ↔ x = k ∨ x ∈ L
  | [] => by simp [insK]
  | y :: L => by
    have ih := ins_mem k x L
    unfold insK
    split
    · rw [List.mem_cons, ih, List.mem_cons]
      constructor
      · rintro (h | h | h)
        · exact .inr (.inl h)
        · exact .inl h
        · exact .inr (.inr h)
      · rintro (h | h | h)
        · exact .inr (.inl h)
        · exact .inl h
        · exact .inr (.inr h)
    · rw [List.mem_cons, List.mem_filter]
      simp only [decide_eq_true_eq]
      constructor
      · rintro (h | h)
        · exact .inl h
        · exact .inr h.1
      · rintro (h | h)
        · exact .inl h
        · by_cases hx : x = k
          · exact .inl hx
          · exact .inr ⟨h, hx⟩
def Up (L : List K) : Prop := L.Pairwise fun a b => lessB a b = true
theorem ins_up (k : K) : ∀ L : List K, Up L → Up (insK L k)
  | [], _ => by unfold Up; simp [insK]
  | y :: L, h => by
    obtain ⟨h1, h2⟩ := List.pairwise_cons.1 h
    have ih := ins_up k L h2
    unfold insK
    split
    · next hy =>
      refine List.pairwise_cons.2 ⟨fun x hx => ?_, ih⟩
      rcases (ins_mem k x L).1 hx with rfl | hx
      · exact hy
      · exact h1 x hx
    · next hy =>
      refine List.pairwise_cons.2 ⟨fun x hx => ?_, List.Pairwise.filter _ h⟩
      obtain ⟨hx, hne⟩ := List.mem_filter.1 hx
      simp only [decide_eq_true_eq] at hne
      have hyx : lessB x k = false := by
        rcases List.mem_cons.1 hx with rfl | hx
        · simpa using hy
        · cases hc : lessB x k with
          | false => rfl
          | true => exact absurd (less_trans y x k (h1 x hx) hc) hy
      cases hc : lessB k x with
      | true => rfl
      | false => exact absurd (less_total x k hyx hc) hne
def setL (L : List K) : List K := L.foldl insK []
theorem set_fold (x : K) : ∀ (L acc : List K), Up acc → Up (L.foldl insK acc) ∧ (x ∈ L.foldl insK acc ↔ x ∈ acc ∨ x ∈ L)
  | [], acc, h => ⟨h, by simp⟩
  | k :: L, acc, h => by
    have ih := set_fold x L (insK acc k) (ins_up k acc h)
    rw [List.foldl_cons]
    refine ⟨ih.1, ih.2.trans ?_⟩
    rw [ins_mem, List.mem_cons]
    constructor
    · rintro ((h | h) | h)
      · exact .inr (.inl h)
      · exact .inl h
      · exact .inr (.inr h)
    · rintro (h | h | h)
      · exact .inl (.inr h)
      · exact .inl (.inl h)
      · exact .inr h
theorem set_up (L : List K) : Up (setL L) := (set_fold (0, 0, 0) L [] List.Pairwise.nil).1
theorem set_mem (L : List K) (x : K) : x ∈ setL L ↔ x ∈ L := by
  have := (set_fold x L [] List.Pairwise.nil).2
  simpa [setL] using this
theorem up_one : ∀ (L M : List K), Up L → Up M → (∀ x, x ∈ L ↔ x ∈ M) → L = M
  | [], [], _, _, _ => rfl
  | [], y :: M, _, _, h => by have := (h y).2 (List.mem_cons_self ..); cases this
  | x :: L, [], _, _, h => by have := (h x).1 (List.mem_cons_self ..); cases this
  | x :: L, y :: M, hL, hM, h => by
    obtain ⟨l1, l2⟩ := List.pairwise_cons.1 hL
    obtain ⟨m1, m2⟩ := List.pairwise_cons.1 hM
    have hxy : x = y := by
      rcases List.mem_cons.1 ((h x).1 (List.mem_cons_self ..)) with e | hx
      · exact e
      · rcases List.mem_cons.1 ((h y).2 (List.mem_cons_self ..)) with e | hy
        · exact e.symm
        · have := less_asymm y x (m1 x hx)
          rw [l1 y hy] at this
          cases this
    subst hxy
    congr 1
    refine up_one L M l2 m2 fun z => ⟨fun hz => ?_, fun hz => ?_⟩
    · rcases List.mem_cons.1 ((h z).1 (List.mem_cons_of_mem _ hz)) with rfl | h'
      · have := l1 z hz; rw [less_irrefl] at this; cases this
      · exact h'
    · rcases List.mem_cons.1 ((h z).2 (List.mem_cons_of_mem _ hz)) with rfl | h'
      · have := m1 z hz; rw [less_irrefl] at this; cases this
      · exact h'
end Go.Proofs.YtdcanppiiikjgaaGreatDoor
namespace Go.Proofs.YtdcanppiiikjgaaGreatDoor
open Go.RowKit Go.ChangeShapes Go.WideShapes Go.Maps
set_option linter.unusedVariables false

theorem keyLaid : laidOutB Tryz.prog = true := by kernel_rfl
theorem keyWide : (match Tryz.prog.underlying 24 with | some (.array _ _) | some (.struct _) => true | _ => false) = true := by kernel_rfl
set_option maxRecDepth 100000 in
theorem keyLaw : Keyed Tryz.prog 24 := Keyed.of_law (deep_law_laid keyLaid (m := 2) (by omega) (of_decide_eq_true (by kernel_rfl)) (by kernel_rfl) keyWide)
theorem keyTyped : Tryz.prog.keyType 24 = true := by kernel_rfl
theorem keyFields : (Tryz.prog.fieldsOf 24).toList.map (fun f => (f.type, f.offset)) = [(5, 0), (5, 1), (5, 2)] := by kernel_rfl
theorem keyCells : Tryz.prog.cellsOf 24 = 3 := by kernel_rfl
theorem byteCells : Tryz.prog.cellsOf 5 = 1 := by kernel_rfl
theorem byte_wf (x : Int) (h : 0 ≤ x ∧ x ≤ 255) : (Lit.int .u8 x).wf = true := by
  have h1 : IntKind.u8.min = 0 := rfl
  have h2 : IntKind.u8.max = 255 := rfl
  simp only [Lit.wf, h1, h2, Bool.and_eq_true, decide_eq_true_eq]
  omega
theorem lits_byte (d : Nat) (x : Int) (h : (Lit.int .u8 x).wf = true) : Tryz.prog.keyLits (d + 1) 5 [.int .u8 x] = some [.int .u8 x] := by
  have hu5 := Tryz.underlying5
  simp only [Program.keyLits, hu5, h, and_self, if_true]
set_option maxRecDepth 100000 in
theorem lits_key (d : Nat) (a b c : Int) (w1 : (Lit.int .u8 a).wf = true) (w2 : (Lit.int .u8 b).wf = true) (w3 : (Lit.int .u8 c).wf = true) : Tryz.prog.keyLits (d + 1 + 1) 24 [.int .u8 a, .int .u8 b, .int .u8 c] = some [.int .u8 a, .int .u8 b, .int .u8 c] := by
  have hu := Tryz.underlying24
  simp only [Program.keyLits, hu]
  simp [keyCells, byteCells, w1, w2, w3]
theorem key_depth : ∃ d, Tryz.prog.types.size = d + 1 := ⟨Tryz.prog.types.size - 1, by have : 0 < Tryz.prog.types.size := of_decide_eq_true (by kernel_rfl); omega⟩
/-- A key's value, and the literal that it reads as. -/
def keyVal (k : K) : Value := .agg #[.int .u8 k.1, .int .u8 k.2.1, .int .u8 k.2.2]
def keyLit (k : K) : Lit := .string (keyBytes [.int .u8 k.1, .int .u8 k.2.1, .int .u8 k.2.2])
theorem key_reads (k : K) (hk : Kok k) : keyOf Tryz.prog 24 (keyVal k) = some (keyLit k) := by
  obtain ⟨a, b, c⟩ := k
  obtain ⟨ha, hb, hc⟩ := hk
  dsimp only at ha hb hc
  have hu := Tryz.underlying24
  have hf : Value.formed Tryz.prog 24 (.agg #[.int .u8 a, .int .u8 b, .int .u8 c]) = true := by
    simp only [Value.formed, hu]
    rw [keyCells]
    rfl
  obtain ⟨d, hd⟩ := key_depth
  unfold keyOf keyVal keyLit
  rw [hu]
  dsimp only
  rw [keyTyped, hf, hd]
  have := lits_key d a b c (byte_wf a ha) (byte_wf b hb) (byte_wf c hc)
  simp only [Value.cells, Bool.and_self, if_true]
  rw [this]
  rfl
theorem keyVal_inj {a b : K} (h : keyVal a = keyVal b) : a = b := by
  obtain ⟨a1, a2, a3⟩ := a
  obtain ⟨b1, b2, b3⟩ := b
  simp only [keyVal, Value.agg.injEq, Array.mk.injEq, List.cons.injEq, Value.int.injEq, true_and, and_true] at h
  obtain ⟨h1, h2, h3⟩ := h
  rw [h1, h2, h3]
theorem keyLit_inj {a b : K} (ha : Kok a) (hb : Kok b) (h : keyLit a = keyLit b) : a = b :=
  keyVal_inj (keyLaw.inj (key_reads a ha) (h ▸ key_reads b hb))
theorem keyLit_same {a b : K} (ha : Kok a) (hb : Kok b) : (keyLit a).sameKey (keyLit b) = decide (a = b) := by
  by_cases h : a = b
  · subst h
    rw [decide_eq_true rfl]
    exact WideAt.sameKey_self trivial
  · rw [decide_eq_false h]
    exact sameKey_ne (fun e => h (keyLit_inj ha hb e))
/-- A key is in the map of a list's keys just if it is on the list. -/
theorem has_keys {H : Type} (u : DataW H) (L : List K) (hL : ∀ x ∈ L, Kok x) (k : K) (hk : Kok k) : has (setOf u (L.map keyLit)) (keyLit k) = decide (k ∈ L) := by
  rw [has_setOf u (keyLit k) (L.map keyLit) (fun x hx => by
    obtain ⟨y, _, rfl⟩ := List.mem_map.1 hx
    trivial)]
  rw [Bool.eq_iff_iff, List.any_eq_true, decide_eq_true_iff]
  constructor
  · rintro ⟨x, hx, hs⟩
    obtain ⟨y, hy, rfl⟩ := List.mem_map.1 hx
    rw [keyLit_same (hL y hy) hk, decide_eq_true_iff] at hs
    exact hs ▸ hy
  · intro h
    exact ⟨keyLit k, List.mem_map.2 ⟨k, h, rfl⟩, by rw [keyLit_same hk hk]; exact decide_eq_true rfl⟩
end Go.Proofs.YtdcanppiiikjgaaGreatDoor
