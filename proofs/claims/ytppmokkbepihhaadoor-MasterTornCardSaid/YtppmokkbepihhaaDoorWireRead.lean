/- The reader of layer wire: what each call answers. -/
import Derived.Test.YtppmokkbepihhaaDoorWireLeaf
import Derived.LoopTactic
namespace Go.Proofs.YtppmokkbepihhaaDoor
open Go.RowKit Go.ChangeShapes Go.WideShapes
set_option linter.unusedVariables false
set_option maxRecDepth 10000

theorem Rd.c0 {w : World} {B : Nat} {p : Option Addr} {c : Nat} {S : St} (h : Rd w B p c S) : w.cell? ⟨B, 0, none⟩ = some (.int .i64 S.1) := cell_of_block h.blk rfl
theorem Rd.c1 {w : World} {B : Nat} {p : Option Addr} {c : Nat} {S : St} (h : Rd w B p c S) : w.cell? ⟨B, 1, none⟩ = some (.slice p S.2.length c) := cell_of_block h.blk rfl
theorem Rd.free {w : World} {B : Nat} {p : Option Addr} {c : Nat} {S : St} (h : Rd w B p c S) (j : Nat) : w.frozen? ⟨B, j, none⟩ = false := free_of_block j h.blk
theorem take_bad (B c n : Nat) (p : Option Addr) (x : Int) (L : List Nat) (w : World) (h : Rd w B p c (x, L)) (hb : L.length ≤ 1000000) (hn : n ≤ 1000000) (hx : (x == 0) = false) :
    Calls Tryd.prog 38 #[.pointer (some ⟨B, 0, none⟩), .int .i64 n] w fun e w' => e = .returned (.slice none 0 0) ∧ w = w' := by
  have H := Lib.hid h
  have h0 : w.cell? ⟨B, 0, none⟩ = some (.int .i64 x) := h.c0
  have h1 : w.cell? ⟨B, 1, none⟩ = some (.slice p L.length c) := h.c1
  clear h
  generalize L.length = m at *
  have hx' : ¬ x = 0 := by simpa using hx
  by_cases hmn : m < n
  · go_enter Tryd.func38, Tryd.ntmps38
    go_wp2_with fail
    refine (note_more B x 6 _ h0 hx).mono ?_
    rintro e w' ⟨rfl, rfl⟩
    go_wp2_with fail
    go_ret
    exact ⟨rfl, rfl⟩
  · go_enter Tryd.func38, Tryd.ntmps38
    go_wp2_with fail
    go_ret
    exact ⟨rfl, rfl⟩
theorem take_short (B c n : Nat) (p : Option Addr) (L : List Nat) (w : World) (h : Rd w B p c (0, L)) (hb : L.length ≤ 1000000) (hn : n ≤ 1000000) (hmn : L.length < n) :
    Calls Tryd.prog 38 #[.pointer (some ⟨B, 0, none⟩), .int .i64 n] w fun e w' => e = .returned (.slice none 0 0) ∧ w' = w.setCell ⟨B, 0, none⟩ (.int .i64 6) := by
  have h0 : w.cell? ⟨B, 0, none⟩ = some (.int .i64 0) := h.c0
  have h1 : w.cell? ⟨B, 1, none⟩ = some (.slice p L.length c) := h.c1
  have hf := h.free 0
  have h2 : (w.setCell ⟨B, 0, none⟩ (.int .i64 6)).cell? ⟨B, 0, none⟩ = some (.int .i64 6) := cell_of_block (block_set 0 _ h.blk) rfl
  clear h
  generalize L.length = m at *
  go_enter Tryd.func38, Tryd.ntmps38
  go_wp2_with fail
  refine (note_first B 6 _ h0 hf).mono ?_
  rintro e w' ⟨rfl, rfl⟩
  go_wp2_with fail
  go_ret
  exact ⟨rfl, rfl⟩
theorem take_good (B c n : Nat) (p : Option Addr) (L : List Nat) (w : World) (h : Rd w B p c (0, L)) (hb : L.length ≤ 1000000) (hmn : n ≤ L.length) :
    Calls Tryd.prog 38 #[.pointer (some ⟨B, 0, none⟩), .int .i64 n] w fun e w' => e = .returned (.slice p n c) ∧ w' = w.setCell ⟨B, 1, none⟩ (.slice (if c = n then p else p.map fun a => a.add n) (L.length - n) (c - n)) := by
  have h0 : w.cell? ⟨B, 0, none⟩ = some (.int .i64 0) := h.c0
  have h1 : w.cell? ⟨B, 1, none⟩ = some (.slice p L.length c) := h.c1
  have hf := h.free 1
  have hcap : L.length ≤ c := h.row.cap
  have hmax : c ≤ 9223372036854775807 := h.max
  clear h
  generalize L.length = m at *
  go_enter Tryd.func38, Tryd.ntmps38
  go_wp2_with fail
  all_goals (go_ret; exact ⟨rfl, rfl⟩)
end Go.Proofs.YtppmokkbepihhaaDoor
