/- Acts: few; the chapter's example. -/
import Derived.Test.YtdocnmgbbfgdoaaVolAct
namespace Go.Proofs.Ytdocnmgbbfgdoaa
open Go.RowKit Go.ChangeShapes Go.WideShapes
set_option linter.unusedVariables false
set_option linter.unusedSimpArgs false

/-- An act, its bytes among it. -/
structure Ac where
  i : Int
  q : Option Addr
  m : Nat
  cq : Nat
  b : List Int
  torn : Bool
  x : Int
def a0 : Ac := ⟨0, none, 0, 0, [], false, 0⟩
/-- An act's cells. -/
def ac (a : Ac) : List Value := [.int .i64 a.i, .slice a.q a.m a.cq, .bool a.torn, .int .i64 a.x]
theorem ac_len (a : Ac) : (ac a).length = 4 := rfl
/-- A slice of acts, each act's bytes in their row. -/
structure AL (w : World) (p : Option Addr) (n c : Nat) (L : List Ac) : Prop where
  row : SlG ac 4 a0 w p n c L
  each : ∀ y ∈ L, BL w y.q y.m y.cq y.b
theorem AL.later {w w' : World} {p : Option Addr} {n c : Nat} {L : List Ac} (h : AL w p n c L) (hb : Below w.heap.size w w') : AL w' p n c L := ⟨h.row.later hb, fun y hy => SlG.later (h.each y hy) hb⟩
theorem AL.at {w : World} {p : Option Addr} {n c : Nat} {L : List Ac} (h : AL w p n c L) {j : Nat} (hj : j < n) : ∃ b off, p = some ⟨b, off, none⟩ ∧ b < w.heap.size ∧ (w.cell? ⟨b, off + j * 4, none⟩ = some (.int .i64 (L.getD j a0).i) ∧ w.cell? ⟨b, off + j * 4 + 1, none⟩ = some (.slice (L.getD j a0).q (L.getD j a0).m (L.getD j a0).cq) ∧ w.cell? ⟨b, off + j * 4 + 2, none⟩ = some (.bool (L.getD j a0).torn) ∧ w.cell? ⟨b, off + j * 4 + 3, none⟩ = some (.int .i64 (L.getD j a0).x)) ∧ BL w (L.getD j a0).q (L.getD j a0).m (L.getD j a0).cq (L.getD j a0).b := by
  obtain ⟨b, off, rfl, hb, hc⟩ := h.row.cell (by omega)
  refine ⟨b, off, rfl, hb, ⟨hc j hj 0 _ rfl, hc j hj 1 _ rfl, hc j hj 2 _ rfl, hc j hj 3 _ rfl⟩, h.each _ ?_⟩
  have hl : j < L.length := by rw [h.row.len]; exact hj
  rw [List.getD, List.getElem?_eq_getElem hl]
  exact List.getElem_mem hl
/-- What few says. -/
def FewSays (n : Nat) (w : World) (e : Ending) (w' : World) : Prop := (∃ t : Bool, e = .returned (.bool t) ∧ (t = true → n ≤ 30)) ∧ w' = w
set_option maxHeartbeats 1000000 in
theorem few_any (p : Option Addr) (n c : Nat) (L : List Ac) (w : World) (h : AL w p n c L) : Calls Try.prog 7 #[.slice p n c] w (FewSays n w) := by
  have H := Lib.hid h
  clear h
  go_enter Try.func7, Try.ntmps7
  by_cases hn : 30 < n
  · have hn' : (30 : Int) < n := by omega
    go_wp2_with fail
    go_ret
    exact ⟨⟨false, rfl, fun h => by cases h⟩, rfl⟩
  · have hn' : ¬ (30 : Int) < n := by omega
    go_wp2_with fail
    go_loop [3] (fun i => ∃ k : Nat, k ≤ n ∧ i = .int .i64 k) (fun i => n - (intOf i).toNat)
    case atStart => exact ⟨0, Nat.zero_le _, rfl⟩
    case round =>
      obtain ⟨k, hk, rfl⟩ := hrel
      by_cases hlt : k < n
      · have hlt' : (k : Int) < n := by omega
        obtain ⟨b, off, rfl, _, ⟨_, c1, _, _⟩, _⟩ := H.out.at hlt
        generalize (L.getD k a0).q = q at *
        generalize (L.getD k a0).m = m at *
        generalize (L.getD k a0).cq = cq at *
        by_cases hm : 5000 < m
        · have hm' : (5000 : Int) < m := by omega
          go_wp2_with fail
          go_ret
          exact ⟨⟨false, rfl, fun h => by cases h⟩, rfl⟩
        · have hm' : ¬ (5000 : Int) < m := by omega
          go_wp2_with fail
          go_round
          case rel => exact ⟨k + 1, by omega, by go_num⟩
          case measure => simp [intOf]; omega
      · obtain rfl : k = n := by omega
        go_wp2_with fail
        go_ret
        exact ⟨⟨true, rfl, fun _ => by omega⟩, rfl⟩
end Go.Proofs.Ytdocnmgbbfgdoaa
