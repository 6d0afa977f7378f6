/- The reader of layer wire: what each call answers. -/
import Derived.Test.YthckdcejijfgmaaWireLeaf
import Derived.LoopTactic
namespace Go.Proofs.Ythckdcejijfgmaa
open Go.RowKit Go.ChangeShapes Go.WideShapes
set_option linter.unusedVariables false

theorem err_any (B : Nat) (x : Int) (w : World) (hc : w.cell? ⟨B, 0, none⟩ = some (.int .i64 x)) :
    Calls Try.prog 18 #[.pointer (some ⟨B, 0, none⟩)] w fun e w' => e = .returned (.int .i64 x) ∧ w = w' := by
  go_enter Try.func18, Try.ntmps18
  go_wp2_with fail
  go_ret
  exact ⟨rfl, rfl⟩
theorem left_ok (B n c : Nat) (p : Option Addr) (w : World) (hc : w.cell? ⟨B, 0, none⟩ = some (.int .i64 0)) (h1 : w.cell? ⟨B, 1, none⟩ = some (.slice p n c)) :
    Calls Try.prog 19 #[.pointer (some ⟨B, 0, none⟩)] w fun e w' => e = .returned (.int .i64 n) ∧ w = w' := by
  go_enter Try.func19, Try.ntmps19
  go_wp2_with fail
  go_ret
  exact ⟨rfl, rfl⟩
theorem left_bad (B : Nat) (x : Int) (w : World) (hc : w.cell? ⟨B, 0, none⟩ = some (.int .i64 x)) (hx : (x == 0) = false) :
    Calls Try.prog 19 #[.pointer (some ⟨B, 0, none⟩)] w fun e w' => e = .returned (.int .i64 0) ∧ w = w' := by
  have hx' : (x != 0) = true := by simpa using hx
  go_enter Try.func19, Try.ntmps19
  go_wp2_with fail
  go_ret
  exact ⟨rfl, rfl⟩
theorem Rd.c0 {w : World} {B : Nat} {p : Option Addr} {c : Nat} {S : St} (h : Rd w B p c S) : w.cell? ⟨B, 0, none⟩ = some (.int .i64 S.1) := cell_of_block h.blk rfl
theorem Rd.c1 {w : World} {B : Nat} {p : Option Addr} {c : Nat} {S : St} (h : Rd w B p c S) : w.cell? ⟨B, 1, none⟩ = some (.slice p S.2.length c) := cell_of_block h.blk rfl
theorem Rd.free {w : World} {B : Nat} {p : Option Addr} {c : Nat} {S : St} (h : Rd w B p c S) (j : Nat) : w.frozen? ⟨B, j, none⟩ = false := free_of_block j h.blk
theorem left_any (B c : Nat) (p : Option Addr) (S : St) (w : World) (h : Rd w B p c S) :
    Calls Try.prog 19 #[.pointer (some ⟨B, 0, none⟩)] w fun e w' => e = .returned (.int .i64 (leftR S : Nat)) ∧ w = w' := by
  have h0 := h.c0
  have h1 := h.c1
  obtain ⟨x, L⟩ := S
  by_cases hx : x = 0
  · subst hx
    exact left_ok B _ c p w h0 h1
  · rw [show leftR (x, L) = 0 from if_neg hx]
    exact left_bad B x w h0 (by simpa using hx)
theorem end_any (B c : Nat) (p : Option Addr) (S : St) (w : World) (h : Rd w B p c S) (hb : S.2.length ≤ 1000000) :
    Calls Try.prog 20 #[.pointer (some ⟨B, 0, none⟩)] w fun e w' => e = .returned (.int .i64 (endR S)) ∧ w = w' := by
  have H := Lib.hid h
  clear h
  obtain ⟨x, L⟩ := S
  by_cases hx : x = 0
  · subst hx
    have hl : leftR (0, L) = L.length := rfl
    have hb' : L.length ≤ 1000000 := hb
    clear hb
    by_cases h0 : 0 < L.length
    · have he : endR (0, L) = 8 := if_pos ⟨rfl, h0⟩
      rw [he]
      clear he
      generalize L.length = n at *
      go_enter Try.func20, Try.ntmps20
      go_wp2_with fail
      refine (err_any B 0 _ H.out.c0).mono ?_
      rintro e w' ⟨rfl, rfl⟩
      go_wp2_with fail
      refine (left_any B _ _ _ _ H.out).mono ?_
      rw [hl]
      clear hl
      rintro e w' ⟨rfl, rfl⟩
      go_wp2_with fail
      go_ret
      exact ⟨rfl, rfl⟩
    · have hL : L = [] := List.eq_nil_of_length_eq_zero (by omega)
      subst hL
      clear hl
      have he : endR (0, []) = 0 := rfl
      have hl : leftR (0, []) = 0 := rfl
      rw [he]
      clear he
      go_enter Try.func20, Try.ntmps20
      go_wp2_with fail
      refine (err_any B 0 _ H.out.c0).mono ?_
      rintro e w' ⟨rfl, rfl⟩
      go_wp2_with fail
      refine (left_any B _ _ _ _ H.out).mono ?_
      rw [hl]
      clear hl
      rintro e w' ⟨rfl, rfl⟩
      go_wp2_with fail
      refine (err_any B 0 _ H.out.c0).mono ?_
      rintro e w' ⟨rfl, rfl⟩
      go_wp2_with fail
      go_ret
      exact ⟨rfl, rfl⟩
  · have he : endR (x, L) = x := if_neg fun h => hx h.1
    rw [he]
    clear he
    have hx1 : (x == 0) = false := by simpa using hx
    have hx2 : ¬ x = 0 := hx
    clear hx
    go_enter Try.func20, Try.ntmps20
    go_wp2_with fail
    refine (err_any B x _ H.out.c0).mono ?_
    rintro e w' ⟨rfl, rfl⟩
    go_wp2_with fail
    refine (err_any B x _ H.out.c0).mono ?_
    rintro e w' ⟨rfl, rfl⟩
    go_wp2_with fail
    go_ret
    exact ⟨rfl, rfl⟩
theorem take_bad (B c n : Nat) (p : Option Addr) (x : Int) (L : List Nat) (w : World) (h : Rd w B p c (x, L)) (hb : L.length ≤ 1000000) (hn : n ≤ 1000000) (hx : (x == 0) = false) :
    Calls Try.prog 41 #[.pointer (some ⟨B, 0, none⟩), .int .i64 n] w fun e w' => e = .returned (.slice none 0 0) ∧ w = w' := by
  have H := Lib.hid h
  have h0 : w.cell? ⟨B, 0, none⟩ = some (.int .i64 x) := h.c0
  have h1 : w.cell? ⟨B, 1, none⟩ = some (.slice p L.length c) := h.c1
  clear h
  generalize L.length = m at *
  have hx' : ¬ x = 0 := by simpa using hx
  by_cases hmn : m < n
  · go_enter Try.func41, Try.ntmps41
    go_wp2_with fail
    refine (note_more B x 6 _ h0 hx).mono ?_
    rintro e w' ⟨rfl, rfl⟩
    go_wp2_with fail
    go_ret
    exact ⟨rfl, rfl⟩
  · go_enter Try.func41, Try.ntmps41
    go_wp2_with fail
    go_ret
    exact ⟨rfl, rfl⟩
theorem take_short (B c n : Nat) (p : Option Addr) (L : List Nat) (w : World) (h : Rd w B p c (0, L)) (hb : L.length ≤ 1000000) (hn : n ≤ 1000000) (hmn : L.length < n) :
    Calls Try.prog 41 #[.pointer (some ⟨B, 0, none⟩), .int .i64 n] w fun e w' => e = .returned (.slice none 0 0) ∧ w' = w.setCell ⟨B, 0, none⟩ (.int .i64 6) := by
  have h0 : w.cell? ⟨B, 0, none⟩ = some (.int .i64 0) := h.c0
  have h1 : w.cell? ⟨B, 1, none⟩ = some (.slice p L.length c) := h.c1
  have hf := h.free 0
  have h2 : (w.setCell ⟨B, 0, none⟩ (.int .i64 6)).cell? ⟨B, 0, none⟩ = some (.int .i64 6) := cell_of_block (block_set 0 _ h.blk) rfl
  clear h
  generalize L.length = m at *
  go_enter Try.func41, Try.ntmps41
  go_wp2_with fail
  refine (note_first B 6 _ h0 hf).mono ?_
  rintro e w' ⟨rfl, rfl⟩
  go_wp2_with fail
  go_ret
  exact ⟨rfl, rfl⟩
theorem take_good (B c n : Nat) (p : Option Addr) (L : List Nat) (w : World) (h : Rd w B p c (0, L)) (hb : L.length ≤ 1000000) (hmn : n ≤ L.length) :
    Calls Try.prog 41 #[.pointer (some ⟨B, 0, none⟩), .int .i64 n] w fun e w' => e = .returned (.slice p n c) ∧ w' = w.setCell ⟨B, 1, none⟩ (.slice (if c = n then p else p.map fun a => a.add n) (L.length - n) (c - n)) := by
  have h0 : w.cell? ⟨B, 0, none⟩ = some (.int .i64 0) := h.c0
  have h1 : w.cell? ⟨B, 1, none⟩ = some (.slice p L.length c) := h.c1
  have hf := h.free 1
  have hcap : L.length ≤ c := h.row.cap
  have hmax : c ≤ 9223372036854775807 := h.max
  clear h
  generalize L.length = m at *
  go_enter Try.func41, Try.ntmps41
  go_wp2_with fail
  all_goals (go_ret; exact ⟨rfl, rfl⟩)
end Go.Proofs.Ythckdcejijfgmaa
